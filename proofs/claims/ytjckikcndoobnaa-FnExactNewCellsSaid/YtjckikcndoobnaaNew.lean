/- NewCells: both sides. -/
import Derived.Test.YtjckikcndoobnaaPuc
namespace Go.Proofs.Ytjckikcndoobnaa
open Go.ChangeShapes Go.WideShapes Go.ChangeAt Go.RowKit
set_option linter.unusedVariables false
def newR (W D S : Int) : CV × Bool := if sidesB W D S then (⟨W, D, S, List.replicate (W.toNat * D.toNat) 0⟩, true) else (CV.no, false)
theorem newR_no {W D S : Int} (h : sidesB W D S = false) : newR W D S = (CV.no, false) := by unfold newR; rw [h]; rfl
theorem newR_y {m d : Nat} {S : Int} (h : sidesB m d S = true) : newR m d S = (⟨m, d, S, List.replicate (m * d) 0⟩, true) := by unfold newR; rw [h, if_pos rfl]; simp
theorem newR_le {W D S : Int} {rz : List Int} {rW rD rS : Int} {rb : Bool} (h : newR W D S = (⟨rW, rD, rS, rz⟩, rb)) : rz.length ≤ 1048576 := by
  cases hs : sidesB W D S
  · rw [newR_no hs] at h; exact no_le h
  · obtain ⟨m, d, rfl, rfl, h1, h2, h3, h4, h5⟩ := sides_of hs
    rw [newR_y hs] at h
    simp only [Prod.mk.injEq, CV.mk.injEq] at h
    rw [← h.1.2.2.2, List.length_replicate]
    have : m * d ≤ 64 * 6 := Nat.mul_le_mul h2 h4
    omega
theorem made_row_at (w : World) (z : Value) (n : Nat) (t : TypeId) {g : Nat} (h : g = w.heap.size) : (w.alloc (.cells (madeCells #[z] n) t)).rowIs g t n (fun _ => z) := by subst h; exact World.rowIs_made w z n t
theorem ints_zero (L i : Nat) (h : i < L) : (ints (List.replicate L 0))[i]? = some (.int .i64 0) := by
  rw [ints_get _ i (by simpa using h)]; simp [h]
theorem own_zero {w' : World} {t : TypeId} {g lo L : Nat} (hg : lo ≤ g) (h : w'.rowIs g t L (fun _ => .int .i64 0)) : Own t w' lo w'.heap.size (some ⟨g, 0, none⟩) L L (ints (List.replicate L 0)) :=
  own_made (by simp [ints]) hg h (fun i hi => ints_zero L i hi)
set_option maxHeartbeats 1000000 in
theorem c_impl_NewCells (W D S : Int) (w : World) {R : CV} {r : Bool} (hv : newR W D S = (R, r)) :
    Calls Try.prog 23 #[.int .i64 W, .int .i64 D, .int .i64 S] w (RetCB 2 R r w) := by
  have BZ := Lib.hid (Box.alloc w #[.int .i64 0, .int .i64 0, .int .i64 0, .slice none 0 0] 27)
  cases hs : sidesB W D S
  · rw [newR_no hs] at hv
    simp only [Prod.mk.injEq] at hv
    obtain ⟨rfl, rfl⟩ := hv
    have HS := Lib.hid hs
    clear hs
    go_enter Try.func23, Try.ntmps23
    go_wp2_with fail
    refine (c_impl_isShape W D S _ HS.out).mono ?_; rintro e wa ⟨rfl, x'⟩
    have X1 : Ext w wa := Ext.trans (by (repeat (first | assumption | exact Ext.refl _ | (with_reducible refine Ext.stepS ?_ (by first | exact Nat.le_refl _ | (simp; done) | (simp; omega)) _) | (with_reducible refine Ext.stepN ?_ _) | (with_reducible refine Ext.stepD ?_) | (with_reducible refine Ext.stepA ?_ _)))) x'
    obtain ⟨z0, z1, z2, z3⟩ := (BZ.out.on x').four
    obtain ⟨f0, f1, f2, f3⟩ := (BZ.out.on x').free
    clear x'
    go_wp2
    refine bodyPost_ret (v := .tuple #[.agg #[.int .i64 0, .int .i64 0, .int .i64 0, .slice none 0 0], .bool false]) (by simp [results, Try.results23, go_sem, z0, z1, z2, z3]) rfl ⟨none, 0, rfl, Own.nil _ _ _ _, ?_⟩
    (repeat (first | assumption | exact Ext.refl _ | (with_reducible refine Ext.stepS ?_ (by first | exact Nat.le_refl _ | (simp; done) | (simp; omega)) _) | (with_reducible refine Ext.stepN ?_ _) | (with_reducible refine Ext.stepD ?_) | (with_reducible refine Ext.stepA ?_ _)))
  · obtain ⟨m, d, rfl, rfl, h1, h2, h3, h4, h5⟩ := sides_of hs
    rw [newR_y hs] at hv
    simp only [Prod.mk.injEq] at hv
    obtain ⟨rfl, rfl⟩ := hv
    have hp := mul_wrap h2 h4
    have hp' : (m : Int) * (d : Int) = ((m * d : Nat) : Int) := by rw [Int.natCast_mul]
    have hp2 : m * d ≤ 384 := Nat.mul_le_mul h2 h4
    obtain ⟨L, hL⟩ : ∃ L, m * d = L := ⟨_, rfl⟩
    rw [hL] at hp hp' hp2 ⊢
    have HS := Lib.hid hs
    have hmk := run_make_row' (P := Try.prog) 22 2 (.int .i64 0) 8 Try.underlying22 info_i64 rfl .i64 .i64 L (by omega) (by omega)
    clear hs hL
    go_enter Try.func23, Try.ntmps23
    go_wp2_with fail
    refine (c_impl_isShape m d S _ HS.out).mono ?_; rintro e wa ⟨rfl, x'⟩
    have X1 : Ext w wa := Ext.trans (by (repeat (first | assumption | exact Ext.refl _ | (with_reducible refine Ext.stepS ?_ (by first | exact Nat.le_refl _ | (simp; done) | (simp; omega)) _) | (with_reducible refine Ext.stepN ?_ _) | (with_reducible refine Ext.stepD ?_) | (with_reducible refine Ext.stepA ?_ _)))) x'
    have HSZ := Lib.hid (show w.heap.size + 1 ≤ wa.heap.size from Nat.le_trans (by first | omega | (simp; done) | (simp; omega)) x'.size)
    have hne : w.heap.size ≠ wa.heap.size := by have := HSZ.out; omega
    have hne' : wa.heap.size ≠ w.heap.size := fun h => hne h.symm
    obtain ⟨z0, z1, z2, z3⟩ := ((BZ.out.on x').past (.cells (madeCells #[.int .i64 0] L) 2)).four
    obtain ⟨f0, f1, f2, f3⟩ := ((BZ.out.on x').past (.cells (madeCells #[.int .i64 0] L) 2)).free
    have HROW := Lib.hid (World.rowIs_made wa (.int .i64 0) L 2)
    obtain ⟨wb, hwb⟩ : ∃ wb, wa.alloc (.cells (madeCells #[.int .i64 0] L) 2) = wb := ⟨_, rfl⟩
    rw [hwb] at z0 z1 z2 z3 f0 f1 f2 f3 HROW
    have hmk2 : (Instr.makeSlice 22 (Value.int IntKind.i64 ↑L) (Value.int IntKind.i64 ↑L)).run Try.prog wa = Result.ok (Value.slice (some { block := wa.heap.size, off := 0 }) L L) wb := by rw [← hwb]; exact hmk wa
    have X2 : Ext w wb := by rw [← hwb]; exact X1.stepA _
    clear x' hmk hwb
    go_wp2
    refine bodyPost_ret (v := .tuple #[.agg #[.int .i64 m, .int .i64 d, .int .i64 S, .slice (some ⟨wa.heap.size, 0, none⟩) L L], .bool true]) (by simp [results, Try.results23, go_sem, z0, z1, z2, z3]) rfl ⟨some ⟨wa.heap.size, 0, none⟩, L, by simp, ?_, ?_⟩
    · simp only [List.length_replicate]
      have hrow := HROW.out
      exact (own_zero (lo := w.heap.size) (by have := HSZ.out; omega) ((((hrow.setOther (by simp; omega) _).setOther (by simp; omega) _).setOther (by simp; omega) _).setOther (by simp; omega) _))
    · (repeat (first | assumption | exact Ext.refl _ | (with_reducible refine Ext.stepS ?_ (by first | exact Nat.le_refl _ | (simp; done) | (simp; omega)) _) | (with_reducible refine Ext.stepN ?_ _) | (with_reducible refine Ext.stepD ?_) | (with_reducible refine Ext.stepA ?_ _)))
theorem c_spec_l03Sides (W D S : Int) (w : World) {r : Bool} (h : sidesB W D S = r) : Calls Try.prog 59 #[.int .i64 W, .int .i64 D, .int .i64 S] w fun e w' => e = .returned (.bool r) ∧ w = w' := by
  cases e1 : inB 2 W 64
  · have HR := Lib.hid (show r = false by rw [← h]; unfold sidesB; rw [e1]; rfl)
    have H1 := Lib.hid e1
    clear e1 h
    go_enter Try.func59, Try.ntmps59
    go_wp2_with (go_at_call 65; refine (c_l00In_e W 2 64 _ H1.out).mono ?_; rintro e w' ⟨rfl, rfl⟩)
    go_ret
    exact ⟨retB HR.out.symm, rfl⟩
  · cases e2 : inB 1 D 6
    · have HR := Lib.hid (show r = false by rw [← h]; unfold sidesB; rw [e2, Bool.false_and, Bool.and_false])
      have H1 := Lib.hid e1
      have H2 := Lib.hid e2
      clear e1 e2 h
      go_enter Try.func59, Try.ntmps59
      go_wp2_with fail
      refine (c_l00In_e W 2 64 _ H1.out).mono ?_; rintro e w' ⟨rfl, rfl⟩
      go_wp2_with fail
      refine (c_l00In_e D 1 6 _ H2.out).mono ?_; rintro e w' ⟨rfl, rfl⟩
      go_wp2
      go_ret
      exact ⟨retB HR.out.symm, rfl⟩
    · have HR := Lib.hid (show keyB S = r by rw [← h]; unfold sidesB; rw [e1, e2]; rfl)
      have H1 := Lib.hid e1
      have H2 := Lib.hid e2
      clear e1 e2 h
      go_enter Try.func59, Try.ntmps59
      go_wp2_with fail
      refine (c_l00In_e W 2 64 _ H1.out).mono ?_; rintro e w' ⟨rfl, rfl⟩
      go_wp2_with fail
      refine (c_l00In_e D 1 6 _ H2.out).mono ?_; rintro e w' ⟨rfl, rfl⟩
      go_wp2_with (go_at_call 61; refine (c_spec_l02Key_e S _ HR.out).mono ?_; rintro e w' ⟨rfl, rfl⟩)
      go_ret
      exact ⟨rfl, rfl⟩
set_option maxHeartbeats 1000000 in
theorem c_spec_l03New (m d : Nat) (S : Int) (w : World) (h2 : m ≤ 64) (h4 : d ≤ 6) :
    Calls Try.prog 60 #[.int .i64 m, .int .i64 d, .int .i64 S] w (RetC 2 ⟨m, d, S, List.replicate (m * d) 0⟩ w) := by
  have hp := mul_wrap h2 h4
  have hp' : (m : Int) * (d : Int) = ((m * d : Nat) : Int) := by rw [Int.natCast_mul]
  have hp2 : m * d ≤ 384 := Nat.mul_le_mul h2 h4
  obtain ⟨L, hL⟩ : ∃ L, m * d = L := ⟨_, rfl⟩
  rw [hL] at hp hp' hp2 ⊢
  have hmk := run_make_row' (P := Try.prog) 22 2 (.int .i64 0) 8 Try.underlying22 info_i64 rfl .i64 .i64 L (by omega) (by omega)
  clear hL
  go_enter Try.func60, Try.ntmps60
  go_wp2
  refine bodyPost_ret (v := .agg #[.int .i64 m, .int .i64 d, .int .i64 S, .slice (some ⟨w.heap.size + 1, 0, none⟩) L L]) (by simp [results, Try.results60, go_sem]) rfl ⟨some ⟨w.heap.size + 1, 0, none⟩, L, by simp, ?_, ?_⟩
  · simp only [List.length_replicate]
    exact own_zero (by omega) (made_row_at _ _ _ _ (by first | omega | (simp; done) | (simp; omega)))
  · (repeat (first | assumption | exact Ext.refl _ | (with_reducible refine Ext.stepS ?_ (by first | exact Nat.le_refl _ | (simp; done) | (simp; omega)) _) | (with_reducible refine Ext.stepN ?_ _) | (with_reducible refine Ext.stepD ?_) | (with_reducible refine Ext.stepA ?_ _)))
set_option maxHeartbeats 1000000 in
theorem c_spec_NewCells (W D S : Int) (w : World) {R : CV} {r : Bool} (hv : newR W D S = (R, r)) :
    Calls Try.prog 22 #[.int .i64 W, .int .i64 D, .int .i64 S] w (RetCB 2 R r w) := by
  have BZ := Lib.hid (Box.alloc w #[.int .i64 0, .int .i64 0, .int .i64 0, .slice none 0 0] 27)
  cases hs : sidesB W D S
  · rw [newR_no hs] at hv
    simp only [Prod.mk.injEq] at hv
    obtain ⟨rfl, rfl⟩ := hv
    have HS := Lib.hid hs
    clear hs
    go_enter Try.func22, Try.ntmps22
    go_wp2_with (go_at_call 59; refine (c_spec_l03Sides W D S _ HS.out).mono ?_; rintro e w' ⟨rfl, rfl⟩)
    refine bodyPost_ret (v := .tuple #[.agg #[.int .i64 0, .int .i64 0, .int .i64 0, .slice none 0 0], .bool false]) (by simp [results, Try.results22, go_sem]) rfl ⟨none, 0, rfl, Own.nil _ _ _ _, ?_⟩
    (repeat (first | assumption | exact Ext.refl _ | (with_reducible refine Ext.stepS ?_ (by first | exact Nat.le_refl _ | (simp; done) | (simp; omega)) _) | (with_reducible refine Ext.stepN ?_ _) | (with_reducible refine Ext.stepD ?_) | (with_reducible refine Ext.stepA ?_ _)))
  · obtain ⟨m, d, rfl, rfl, h1, h2, h3, h4, h5⟩ := sides_of hs
    rw [newR_y hs] at hv
    simp only [Prod.mk.injEq] at hv
    obtain ⟨rfl, rfl⟩ := hv
    have HS := Lib.hid hs
    clear hs
    go_enter Try.func22, Try.ntmps22
    go_wp2_with fail
    refine (c_spec_l03Sides m d S _ HS.out).mono ?_; rintro e w' ⟨rfl, rfl⟩
    go_wp2_with fail
    refine (c_spec_l03New m d S _ h2 h4).mono ?_; rintro e wa ⟨ra, rc, rfl, o', x'⟩
    have X1 : Ext w wa := Ext.trans (by (repeat (first | assumption | exact Ext.refl _ | (with_reducible refine Ext.stepS ?_ (by first | exact Nat.le_refl _ | (simp; done) | (simp; omega)) _) | (with_reducible refine Ext.stepN ?_ _) | (with_reducible refine Ext.stepD ?_) | (with_reducible refine Ext.stepA ?_ _)))) x'
    have HO := Lib.hid o'
    obtain ⟨z0, z1, z2, z3⟩ := (BZ.out.on x').four
    obtain ⟨f0, f1, f2, f3⟩ := (BZ.out.on x').free
    clear o' x'
    go_wp2
    refine bodyPost_ret (v := .tuple #[.agg #[.int .i64 m, .int .i64 d, .int .i64 S, .slice ra (List.replicate (m * d) (0 : Int)).length rc], .bool true]) (by simp [results, Try.results22, go_sem, z0, z1, z2, z3]) rfl ⟨_, _, rfl, ?_, ?_⟩
    · refine own_touch HO.out (lo' := w.heap.size) (hi' := w.heap.size + 1) ?_ (by first | omega | (simp; done) | (simp; omega)) (by first | omega | (simp; done) | (simp; omega)) (Nat.le_refl _)
      (repeat (first | assumption | exact Touch.refl _ _ _ | (with_reducible refine Touch.stepS ?_ (by first | exact Nat.le_refl _ | (simp; done) | (simp; omega)) (by first | (simp; done) | (simp; omega)) _) | (with_reducible refine Touch.stepN ?_ _) | (with_reducible refine Touch.stepA ?_ _)))
    · (repeat (first | assumption | exact Ext.refl _ | (with_reducible refine Ext.stepS ?_ (by first | exact Nat.le_refl _ | (simp; done) | (simp; omega)) _) | (with_reducible refine Ext.stepN ?_ _) | (with_reducible refine Ext.stepD ?_) | (with_reducible refine Ext.stepA ?_ _)))
end Go.Proofs.Ytjckikcndoobnaa
