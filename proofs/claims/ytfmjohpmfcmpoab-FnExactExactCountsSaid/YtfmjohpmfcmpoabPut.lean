/- Cells: puts, on both sides. -/
import Derived.Test.YtfmjohpmfcmpoabPla
import Derived.Deep.RegionHeld3
import Derived.Deep.RegionLaw
import Derived.Deep.AppendLies
namespace Go.Proofs.Ytfmjohpmfcmpoab
open Go.ChangeShapes Go.WideShapes Go.ChangeAt Go.RowKit
set_option linter.unusedVariables false
theorem Touch.of_drew {lo hi : Nat} {w w' : World} (h : Touch lo hi w w') (q : Nat) : Touch lo hi w (w'.drewN q) := h.trans (Touch.of_ext (Ext.drewN _ _) _ _)
theorem Touch.one {w w' : World} {g : Nat} (h : Touch g (g + 1) w w') (i : Nat) (v : Value) : Touch g (g + 1) w (w'.setCell ⟨g, i, none⟩ v) := h.trans (Touch.setCell _ (a := ⟨g, i, none⟩) (Nat.le_refl _) (Nat.lt_succ_self _) _)
theorem wrap_put {x y : Int} (h1 : -1000000000000 ≤ x) (h2 : x ≤ 1000000000000) (h3 : -1000000 ≤ y) (h4 : y ≤ 1000000) : IntKind.i64.wrap (x + y) = x + y := by rw [IntKind.wrap_i64]; omega
set_option maxHeartbeats 2000000 in
theorem c_spec_l03Put (b g m d : Nat) (S key y : Int) (n cap : Nat) (zs : List Int) (f0 : Nat → Value) (w : World) (hok : CellsOk m d S zs) (hk : keyB key = true) (y0 : -1000000 ≤ y) (y1 : y ≤ 1000000) (hn : zs.length = n) (hc : n ≤ cap) (hne : b ≠ g)
    (hb : Box w b 64 #[.int .i64 m, .int .i64 d, .int .i64 S, .slice (some ⟨g, 0, none⟩) n cap]) (hrow : w.rowIs g 2 cap (rowT zs f0)) :
    Calls Try.prog 96 #[.pointer (some ⟨b, 0, none⟩), .int .i64 key, .int .i64 y] w fun e w' => e = .returned (.tuple #[]) ∧ w'.rowIs g 2 cap (rowT (upd (placeN m S key) (fun _ c => c + y) zs d) f0) ∧ Touch g (g + 1) w w' := by
  have OK := Lib.hid hok
  have HK := Lib.hid hk
  have HB := Lib.hid hb
  have HN := Lib.hid hn
  have HR := Lib.hid hrow
  have hd6 := hok.d6
  have h0 := hb.four
  obtain ⟨b0, b1, b2, b3⟩ := h0
  clear hok hk hb hn hrow
  go_enter Try.func96, Try.ntmps96
  go_wp2
  go_loopw [6] (fun i wr => ∃ k : Nat, k ≤ d ∧ i = .int .i64 k ∧ wr.rowIs g 2 cap (rowT (upd (placeN m S key) (fun _ c => c + y) zs k) f0) ∧ Touch g (g + 1) w wr) (fun i _ => d - (intOf i).toNat)
  case atStart => exact ⟨0, Nat.zero_le _, rfl, HR.out, Touch.refl _ _ _⟩
  case round =>
    obtain ⟨k, hk, rfl, hrow, ht⟩ := hrel
    obtain ⟨b0, b1, b2, b3⟩ := (HB.out.beside ht (by omega)).four
    have HB2 := Lib.hid (HB.out.beside ht (by omega))
    by_cases hlt : k < d
    · obtain ⟨p, hp⟩ : ∃ p, placeN m S key k = p := ⟨_, rfl⟩
      have hpl : p < n := by rw [← hp, ← HN.out, OK.out.len]; exact placeN_lt S key (by have := OK.out.m2; omega) hlt
      obtain ⟨x, hx⟩ : ∃ x, zs[p]?.getD 0 = x := ⟨_, rfl⟩
      have hbd := manyB_at OK.out.many (i := p) (by rw [HN.out]; exact hpl)
      rw [hx] at hbd
      obtain ⟨x0, x1⟩ := hbd
      have hlen : (upd (placeN m S key) (fun _ c => c + y) zs k).length = n := by rw [upd_length]; exact HN.out
      have hget : (upd (placeN m S key) (fun _ c => c + y) zs k)[p]?.getD 0 = x := by rw [← hp, upd_get (fun i j h => placeN_mono S key (by have := OK.out.m2; omega) h) _ _ _ _ (Nat.le_refl _), hp, hx]
      have hcell := hrow.cell (i := p) (by omega)
      rw [rowT_at (by rw [hlen]; exact hpl), hget] at hcell
      have hfro := hrow.frozen p
      have hw := wrap_put x0 x1 y0 y1
      have HP := Lib.hid hp
      have HS := Lib.hid (show (wr.setCell ⟨g, p, none⟩ (.int .i64 (x + y))).rowIs g 2 cap (rowT (upd (placeN m S key) (fun _ c => c + y) zs (k + 1)) f0) from by
        have := rowT_set hrow (k := p) (by rw [hlen]; exact hpl) (x + y)
        show World.rowIs _ _ _ _ (rowT ((upd (placeN m S key) (fun _ c => c + y) zs k).set (placeN m S key k) (zs[placeN m S key k]?.getD 0 + y)) f0)
        rw [hp, hx]
        exact this)
      have hpl' : (p : Int) < (n : Int) := by omega
      have hp0 : (0 : Int) ≤ (p : Int) := by omega
      have HT := Lib.hid ht
      clear hp hx hlen hget hrow ht
      go_wp2_with fail
      go_region_with (go_at_call 105; refine (c_spec_l03Place b m d S key _ n cap k _ (by have := OK.out.m2; omega) OK.out.m64 (by omega) OK.out.key HK.out (HB2.out.on (Ext.drew _))).mono ?_; rw [HP.out]; rintro e w' ⟨rfl, q, rfl⟩)
      all_goals
        go_wp2
        go_roundw
        case rel => exact ⟨k + 1, by omega, by go_num, HS.out, (HT.out.of_drew _).one _ _⟩
        case measure => simp [intOf]; omega
    · obtain rfl : k = d := by omega
      have HS := Lib.hid hrow
      have HT := Lib.hid ht
      clear hrow ht
      go_wp2
      first | go_end0 | (simp only [Exit.inBlock, Exit.then]; refine bodyPost_ret (results_none rfl _ _ _) rfl ?_) | refine bodyPost_ret (results_none rfl _ _ _) rfl ?_
      exact ⟨rfl, HS.out, HT.out⟩
theorem c_impl_cellsIfValid_no (W D S : Int) (a : Option Addr) (n cap : Nat) (zs : List Int) (w : World) (hr : cellsB W D S zs = false) (hm : n ≤ maxLen) (h : Reads w a n (ints zs)) :
    Calls Try.prog 191 #[.agg #[.int .i64 W, .int .i64 D, .int .i64 S, .slice a n cap]] w fun e w' => e = .returned (.tuple #[.agg #[.int .i64 0, .int .i64 0, .int .i64 0, .slice none 0 0], .bool false]) ∧ Ext w w' := by
  have H := Lib.hid h
  have HR := Lib.hid hr
  clear h hr
  go_enter Try.func191, Try.ntmps191
  go_wp2_with fail
  refine (c_impl_ValidCells W D S a n cap zs _ HR.out hm (H.out.on ((Ext.refl _).stepA _ |>.stepA _))).mono ?_; rintro e u1 ⟨rfl, x1⟩
  have X := ((Ext.refl w).stepA _ |>.stepA _).trans x1
  have BZ := Lib.hid ((Box.alloc_at (w.alloc (.cells #[.int .i64 W, .int .i64 D, .int .i64 S, .slice a n cap] 64)) #[.int .i64 0, .int .i64 0, .int .i64 0, .slice none 0 0] 64 (b := w.heap.size + 1) (by simp)).on x1)
  obtain ⟨z0, z1, z2, z3⟩ := BZ.out.four
  obtain ⟨f0, f1, f2, f3⟩ := BZ.out.free
  clear x1
  go_wp2
  refine bodyPost_ret (v := .tuple #[.agg #[.int .i64 0, .int .i64 0, .int .i64 0, .slice none 0 0], .bool false]) (by simp [results, Try.results191, go_sem, z0, z1, z2, z3]) rfl ⟨rfl, ?_⟩
  (repeat (first | assumption | exact Ext.refl _ | (with_reducible refine Ext.stepS ?_ (by first | exact Nat.le_refl _ | (simp; done) | (simp; omega)) _) | (with_reducible refine Ext.stepN ?_ _) | (with_reducible refine Ext.stepD ?_) | (with_reducible refine Ext.stepA ?_ _)))
theorem c_impl_cellsIfValid (W D S : Int) (a : Option Addr) (n cap : Nat) (zs : List Int) (w : World) (hr : cellsB W D S zs = true) (hm : n ≤ maxLen) (h : Reads w a n (ints zs)) :
    Calls Try.prog 191 #[.agg #[.int .i64 W, .int .i64 D, .int .i64 S, .slice a n cap]] w fun e w' => e = .returned (.tuple #[.agg #[.int .i64 W, .int .i64 D, .int .i64 S, .slice a n cap], .bool true]) ∧ Ext w w' := by
  have H := Lib.hid h
  have HR := Lib.hid hr
  clear h hr
  go_enter Try.func191, Try.ntmps191
  go_wp2_with fail
  refine (c_impl_ValidCells W D S a n cap zs _ HR.out hm (H.out.on ((Ext.refl _).stepA _ |>.stepA _))).mono ?_; rintro e u1 ⟨rfl, x1⟩
  have X := ((Ext.refl w).stepA _ |>.stepA _).trans x1
  have BX := Lib.hid (((Box.alloc w #[.int .i64 W, .int .i64 D, .int .i64 S, .slice a n cap] 64).past _).on x1)
  have BZ := Lib.hid ((Box.alloc_at (w.alloc (.cells #[.int .i64 W, .int .i64 D, .int .i64 S, .slice a n cap] 64)) #[.int .i64 0, .int .i64 0, .int .i64 0, .slice none 0 0] 64 (b := w.heap.size + 1) (by simp)).on x1)
  obtain ⟨b0, b1, b2, b3⟩ := BX.out.four
  obtain ⟨z0, z1, z2, z3⟩ := BZ.out.four
  obtain ⟨f0, f1, f2, f3⟩ := BZ.out.free
  clear x1
  go_wp2
  refine bodyPost_ret (v := .tuple #[.agg #[.int .i64 W, .int .i64 D, .int .i64 S, .slice a n cap], .bool true]) (by simp [results, Try.results191, go_sem, z0, z1, z2, z3]) rfl ⟨rfl, ?_⟩
  (repeat (first | assumption | exact Ext.refl _ | (with_reducible refine Ext.stepS ?_ (by first | exact Nat.le_refl _ | (simp; done) | (simp; omega)) _) | (with_reducible refine Ext.stepN ?_ _) | (with_reducible refine Ext.stepD ?_) | (with_reducible refine Ext.stepA ?_ _)))
end Go.Proofs.Ytfmjohpmfcmpoab
