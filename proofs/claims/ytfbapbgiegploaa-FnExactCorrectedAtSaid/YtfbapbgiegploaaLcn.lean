/- Copies whose capacity is their length. -/
import Derived.Test.YtfbapbgiegploaaLcl
namespace Go.Proofs.Ytfbapbgiegploaa
open Go.ChangeShapes Go.WideShapes Go.ChangeAt Go.RowKit
set_option linter.unusedVariables false
def RetSn (t : TypeId) (n : Nat) (vs : List Value) (w : World) (e : Ending) (w' : World) : Prop := ∃ a, e = .returned (.slice a n n) ∧ Own t w' w.heap.size w'.heap.size a n n vs ∧ Ext w w'
def RetCn (t : TypeId) (c : CV) (w : World) (e : Ending) (w' : World) : Prop := ∃ a, e = .returned (.agg #[.int .i64 c.W, .int .i64 c.D, .int .i64 c.S, .slice a c.zs.length c.zs.length]) ∧ Own t w' w.heap.size w'.heap.size a c.zs.length c.zs.length (ints c.zs) ∧ Ext w w'
/-- a copy -/
theorem c_toI_n (a : Option Addr) (len cap : Nat) (zs : List Int) (w : World) (hl : len ≤ 1048576) (h : Reads w a len (ints zs)) :
    Calls Try.prog 178 #[.slice a len cap] w (RetSn 2 len (ints zs) w) := by
  obtain ⟨hz, hr⟩ := h.int
  have hmk := run_make_row' (P := Try.prog) 25 2 (.int .i64 0) 8 Try.underlying25 info_i64 rfl .i64 .i64 len (by omega) (by omega)
  have HR := Lib.hid hr
  have HZ := Lib.hid hz
  have HG := Lib.hid h
  clear hr hz h
  go_enter Try.func178, Try.ntmps178
  go_wp2
  go_loopw [4] (fun i wr => ∃ k : Nat, k ≤ len ∧ i = .int .i64 k ∧ wr.rowIs w.heap.size 2 len (fillF zs k) ∧ Ext w wr) (fun i _ => len - (intOf i).toNat)
  case atStart => exact ⟨0, Nat.zero_le _, rfl, (World.rowIs_made _ _ _ _).congr fun i _ => rfl, Ext.alloc _ _⟩
  case round =>
    obtain ⟨k, hk, rfl, hrow, hext⟩ := hrel
    by_cases hlt : k < len
    · rcases HR.out with h0 | ⟨b, off, rfl, hc⟩
      · omega
      have hcell : wr.cell? ⟨b, off + k, none⟩ = some (.int .i64 (zs[k]?.getD 0)) := by
        have h1 := hc k hlt
        rw [hext.cell b _ (World.block_lt_of_cell? w ⟨b, off + k, none⟩ h1)]; exact h1
      have hcur := hrow.cell hlt
      have hfro := hrow.frozen k
      have HS := Lib.hid (fillF_step zs k hrow)
      have HE := Lib.hid (show Ext w (wr.setCell ⟨w.heap.size, k, none⟩ (.int .i64 (zs[k]?.getD 0))) from Below.setCell hext (Nat.le_refl _) _)
      clear hc hrow hext
      go_wp2
      go_roundw
      case rel => exact ⟨k + 1, by omega, by go_num, HS.out, HE.out⟩
      case measure => simp [intOf]; omega
    · obtain rfl : k = len := by omega
      have HS := Lib.hid hrow
      have HE := Lib.hid hext
      clear hrow hext
      go_wp2
      go_ret
      exact ⟨_, rfl, own_made (by rw [ints_length]; exact HZ.out) (Nat.le_refl _) HS.out (fun i hi => by rw [ints_get zs i (by rw [HZ.out]; exact hi)]; unfold fillF; rw [if_pos hi]), HE.out⟩
set_option maxHeartbeats 1000000 in
theorem c_toC_n (W D S : Int) (a : Option Addr) (n cap : Nat) (zs : List Int) (w : World) (hl : n ≤ 1048576) (h : Reads w a n (ints zs)) :
    Calls Try.prog 72 #[.agg #[.int .i64 W, .int .i64 D, .int .i64 S, .slice a n cap]] w (RetCn 2 ⟨W, D, S, zs⟩ w) := by
  have hz := h.int.1
  subst hz
  have H := Lib.hid h
  clear h
  have BR := Lib.hid (Box.alloc_at (w.alloc (.cells #[.int .i64 W, .int .i64 D, .int .i64 S, .slice a zs.length cap] 90)) #[.int .i64 0, .int .i64 0, .int .i64 0, .slice none 0 0] 57 (b := w.heap.size + 1) (by simp))
  have BO := Lib.hid (Box.alloc_at ((w.alloc (.cells #[.int .i64 W, .int .i64 D, .int .i64 S, .slice a zs.length cap] 90)).alloc (.cells #[.int .i64 0, .int .i64 0, .int .i64 0, .slice none 0 0] 57)) #[.int .i64 W, .int .i64 D, .int .i64 S, .slice none 0 0] 57 (b := w.heap.size + 2) (by simp))
  go_enter Try.func72, Try.ntmps72
  go_wp2_with fail
  refine (c_toI_n _ _ _ zs _ hl (H.out.on (((Ext.refl w).stepA _ |>.stepA _) |>.stepA _))).mono ?_; rintro e u1 ⟨a', rfl, o', x1⟩
  have BO1 := Lib.hid (BO.out.on x1)
  have BR1 := Lib.hid ((BR.out.past _).on x1)
  have O := Lib.hid o'
  have X := (((Ext.refl w).stepA _ |>.stepA _) |>.stepA _).trans x1
  obtain ⟨b0, b1, b2, b3⟩ := BO1.out.four
  obtain ⟨f0, f1, f2, f3⟩ := BO1.out.free
  obtain ⟨r0, r1, r2, r3⟩ := BR1.out.four
  obtain ⟨g0, g1, g2, g3⟩ := BR1.out.free
  have hs1 := x1.size
  simp at hs1
  clear x1 o'
  go_wp2
  refine bodyPost_ret (v := .agg #[.int .i64 W, .int .i64 D, .int .i64 S, .slice a' zs.length zs.length]) (by simp [results, Try.results72, go_sem, r0, r1, r2, r3]) rfl ⟨a', rfl, ?_, ?_⟩
  · refine own_touch O.out (lo' := w.heap.size + 1) (hi' := w.heap.size + 3) ?_ (by first | omega | (simp; done) | (simp; omega)) (by first | omega | (simp; done) | (simp; omega)) (Nat.le_refl _)
    (repeat (first | assumption | exact Touch.refl _ _ _ | (with_reducible refine Touch.stepS ?_ (by first | exact Nat.le_refl _ | (simp; done) | (simp; omega)) (by first | (simp; done) | (simp; omega)) _) | (with_reducible refine Touch.stepN ?_ _) | (with_reducible refine Touch.stepA ?_ _)))
  · (repeat (first | assumption | exact Ext.refl _ | (with_reducible refine Ext.stepS ?_ (by first | exact Nat.le_refl _ | (simp; done) | (simp; omega)) _) | (with_reducible refine Ext.stepN ?_ _) | (with_reducible refine Ext.stepD ?_) | (with_reducible refine Ext.stepA ?_ _)))
end Go.Proofs.Ytfbapbgiegploaa
