/- Sieves: valid, new, in, on both sides. -/
import Derived.Test.YtfolflkbpdbkcaaGri
import Derived.Test.YtfolflkbpdbkcaaBls
namespace Go.Proofs.Ytfolflkbpdbkcaa
open Go.ChangeShapes Go.WideShapes Go.ChangeAt Go.RowKit
set_option linter.unusedVariables false
set_option maxHeartbeats 4000000 in
theorem c_spec_l04Is (b : Nat) (R S : Int) (a : Option Addr) (n cap : Nat) (w : World) {r : Bool} (hr : gridB R S n = r)
    (hb : Box w b 27 #[.int .i64 R, .int .i64 S, .slice a n cap]) (hm : n ≤ maxLen) :
    Calls Try.prog 49 #[.pointer (some ⟨b, 0, none⟩)] w fun e w' => e = .returned (.bool r) ∧ ∃ q, w' = w.drewN q := by
  obtain ⟨h0, h1, h2⟩ := hb.three
  unfold maxLen at hm
  clear hb
  cases e1 : inB 1 R 8
  · have H1 := Lib.hid e1
    have HR := Lib.hid (show r = false by rw [← hr]; exact gridB_1 e1)
    clear e1 hr
    go_enter Try.func49, Try.ntmps49
    go_wp2_with (go_at_call 56; refine (c_l00In_e R 1 8 _ H1.out).mono ?_; rintro e w' ⟨rfl, rfl⟩)
    go_ret
    exact ⟨retB (by first | exact HR.out.symm | (rw [HR.out]; exact decide_eq_true (by omega)) | (rw [HR.out]; exact decide_eq_false (by omega)) | (rw [HR.out]; simp; omega)), 0, rfl⟩
  have H1 := Lib.hid e1
  cases e2 : keyB S
  · have H2 := Lib.hid e2
    have HR := Lib.hid (show r = false by rw [← hr]; exact gridB_2 e2)
    clear e1 e2 hr
    go_enter Try.func49, Try.ntmps49
    go_wp2_with (first | (go_at_call 56; refine (c_l00In_e R 1 8 _ H1.out).mono ?_; rintro e w' ⟨rfl, rfl⟩) | (go_at_call 57; refine (c_spec_l02Key_q S _ H2.out).mono ?_; rintro e w' ⟨rfl, rfl⟩))
    go_ret
    exact ⟨retB (by first | exact HR.out.symm | (rw [HR.out]; exact decide_eq_true (by omega)) | (rw [HR.out]; exact decide_eq_false (by omega)) | (rw [HR.out]; simp; omega)), 0, rfl⟩
  have H2 := Lib.hid e2
  by_cases h3 : n < 1
  · have h3' : (n : Int) < 1 := by omega
    have HR := Lib.hid (show r = false by rw [← hr]; exact gridB_3 (in_lo (by omega)))
    clear e1 e2 hr h3
    go_enter Try.func49, Try.ntmps49
    go_wp2_with (first | (go_at_call 56; refine (c_l00In_e R 1 8 _ H1.out).mono ?_; rintro e w' ⟨rfl, rfl⟩) | (go_at_call 57; refine (c_spec_l02Key_q S _ H2.out).mono ?_; rintro e w' ⟨rfl, rfl⟩))
    go_ret
    exact ⟨retB (by first | exact HR.out.symm | (rw [HR.out]; exact decide_eq_true (by omega)) | (rw [HR.out]; exact decide_eq_false (by omega)) | (rw [HR.out]; simp; omega)), 0, rfl⟩
  by_cases h4 : 512 < n
  · have h4' : (512 : Int) < (n : Int) := by omega
    have HR := Lib.hid (show r = false by rw [← hr]; exact gridB_3 (in_hi (by omega)))
    clear e1 e2 hr h4
    go_enter Try.func49, Try.ntmps49
    go_wp2_with (first | (go_at_call 56; refine (c_l00In_e R 1 8 _ H1.out).mono ?_; rintro e w' ⟨rfl, rfl⟩) | (go_at_call 57; refine (c_spec_l02Key_q S _ H2.out).mono ?_; rintro e w' ⟨rfl, rfl⟩))
    go_ret
    exact ⟨retB (by first | exact HR.out.symm | (rw [HR.out]; exact decide_eq_true (by omega)) | (rw [HR.out]; exact decide_eq_false (by omega)) | (rw [HR.out]; simp; omega)), 0, rfl⟩
  have h3' : (1 : Int) ≤ (n : Int) := by omega
  have h4' : (n : Int) ≤ 512 := by omega
  have HR := Lib.hid (show r = true by rw [← hr, gridB_yes e1 (in_yes (by omega) (by omega)), e2])
  clear e1 e2 hr h3 h4
  go_enter Try.func49, Try.ntmps49
  go_wp2_with (first | (go_at_call 56; refine (c_l00In_e R 1 8 _ H1.out).mono ?_; rintro e w' ⟨rfl, rfl⟩) | (go_at_call 57; refine (c_spec_l02Key_q S _ H2.out).mono ?_; rintro e w' ⟨rfl, rfl⟩))
  go_ret
  exact ⟨retB (by first | exact HR.out.symm | (rw [HR.out]; exact decide_eq_true (by omega)) | (rw [HR.out]; exact decide_eq_false (by omega)) | (rw [HR.out]; simp; omega)), 0, rfl⟩
theorem c_spec_ValidSieve (R S : Int) (a : Option Addr) (n cap : Nat) (zs : List Bool) (w : World) {r : Bool} (hr : gridB R S zs.length = r) (hm : n ≤ maxLen) (h : Reads w a n (bools zs)) :
    Calls Try.prog 16 #[.agg #[.int .i64 R, .int .i64 S, .slice a n cap]] w fun e w' => e = .returned (.bool r) ∧ Ext w w' := by
  have hz := h.bool.1
  subst hz
  have HR := Lib.hid hr
  clear h hr
  go_enter Try.func16, Try.ntmps16
  go_wp2_with (go_at_call 49; refine (c_spec_l04Is _ R S a zs.length cap _ HR.out (Box.alloc _ _ _) hm).mono ?_; rintro e w' ⟨rfl, q, rfl⟩)
  go_ret
  exact ⟨rfl, ((Ext.refl _).stepA _).stepN _⟩
theorem c_impl_ValidSieve_n (R S : Int) (a : Option Addr) (n cap : Nat) (w : World) {r : Bool} (hr : gridB R S n = r) (hm : n ≤ maxLen) :
    Calls Try.prog 18 #[.agg #[.int .i64 R, .int .i64 S, .slice a n cap]] w fun e w' => e = .returned (.bool r) ∧ Ext w w' := by
  have HS := Lib.hid hr
  clear hr
  go_enter Try.func18, Try.ntmps18
  go_wp2_with fail
  refine (c_impl_gridOfSieve R S a n cap _).mono ?_; rintro e u1 ⟨rfl, x1⟩
  go_wp2_with fail
  refine (c_impl_isGrid R S n _ HS.out).mono ?_; rintro e u2 ⟨rfl, x2⟩
  have X := Lib.hid (x1.trans x2)
  clear x1 x2
  go_wp2
  go_ret
  exact ⟨rfl, by first | exact X.out | exact (Ext.alloc _ _).trans X.out⟩
theorem c_impl_ValidSieve (R S : Int) (a : Option Addr) (n cap : Nat) (zs : List Bool) (w : World) {r : Bool} (hr : gridB R S zs.length = r) (hm : n ≤ maxLen) (h : Reads w a n (bools zs)) :
    Calls Try.prog 18 #[.agg #[.int .i64 R, .int .i64 S, .slice a n cap]] w fun e w' => e = .returned (.bool r) ∧ Ext w w' := by
  have hz := h.bool.1
  subst hz
  exact c_impl_ValidSieve_n R S a zs.length cap w hr hm
def newSieveR (n R S : Int) : SV × Bool := if gridB R S n then (⟨R, S, List.replicate n.toNat false⟩, true) else (SV.no, false)
theorem newSieveR_n {n R S : Int} (h : gridB R S n = false) : newSieveR n R S = (SV.no, false) := by unfold newSieveR; rw [h]; rfl
theorem newSieveR_y {n : Nat} {R S : Int} (h : gridB R S n = true) : newSieveR n R S = (⟨R, S, List.replicate n false⟩, true) := by unfold newSieveR; rw [h]; simp
theorem newSieveR_le {n R S rR rS : Int} {rz : List Bool} {rb : Bool} (h : newSieveR n R S = (⟨rR, rS, rz⟩, rb)) : rz.length ≤ 1048576 := by
  unfold newSieveR at h
  split at h
  · rename_i hc
    obtain ⟨r, m, rfl, rfl, ok⟩ := grid_ok hc
    have := ok.n512
    simp only [Prod.mk.injEq, SV.mk.injEq] at h
    rw [← h.1.2.2, List.length_replicate]; simp; omega
  · simp only [Prod.mk.injEq, SV.no, SV.mk.injEq] at h
    rw [← h.1.2.2]; exact Nat.zero_le _
theorem madeB_reads {n : Nat} : bools (List.replicate n false) = List.replicate n (.bool false) := by simp [bools]
theorem own_falses {w' : World} {t : TypeId} {g lo L : Nat} (hg : lo ≤ g) (h : w'.rowIs g t L (fun _ => .bool false)) : Own t w' lo w'.heap.size (some ⟨g, 0, none⟩) L L (bools (List.replicate L false)) :=
  own_made (by simp [bools]) hg h (fun i hi => by rw [bools_get _ i (by simpa using hi)]; simp [hi])
theorem own_madeB {w : World} {t : TypeId} {n : Nat} : Own t (w.alloc (.cells (madeCells #[.bool false] n) t)) w.heap.size (w.heap.size + 1) (some ⟨w.heap.size, 0, none⟩) n n (bools (List.replicate n false)) :=
  ⟨by simp [bools], Nat.le_refl _, .inr ⟨w.heap.size, _, rfl, Nat.le_refl _, Nat.lt_succ_self _, World.rowIs_made _ _ _ _, fun i hi => by simp [bools, hi]⟩⟩
set_option maxHeartbeats 1000000 in
theorem c_impl_NewSieve (n R S : Int) (w : World) {V : SV} {b : Bool} (hv : newSieveR n R S = (V, b)) :
    Calls Try.prog 23 #[.int .i64 n, .int .i64 R, .int .i64 S] w (RetKVB 4 V b w) := by
  have BZ := Lib.hid (Box.alloc w #[.int .i64 0, .int .i64 0, .slice none 0 0] 27)
  cases hc : gridB R S n
  · rw [newSieveR_n hc] at hv
    simp only [Prod.mk.injEq] at hv
    obtain ⟨rfl, rfl⟩ := hv
    have HC := Lib.hid hc
    clear hc
    go_enter Try.func23, Try.ntmps23
    go_wp2_with fail
    refine (c_impl_isGrid R S n _ HC.out).mono ?_; rintro e u1 ⟨rfl, x1⟩
    have BZ1 := Lib.hid (BZ.out.on x1)
    obtain ⟨z0, z1, z2⟩ := BZ1.out.three
    obtain ⟨f0, f1, f2, f3⟩ := BZ1.out.free
    have X := (Ext.alloc _ _).trans x1
    clear x1
    go_wp2
    refine bodyPost_ret (v := .tuple #[.agg #[.int .i64 0, .int .i64 0, .slice none 0 0], .bool false]) (by simp [results, Try.results23, go_sem, z0, z1, z2]) rfl ⟨none, 0, rfl, Own.nil _ _ _ _, ?_⟩
    (repeat (first | assumption | exact Ext.refl _ | (with_reducible refine Ext.stepS ?_ (by first | exact Nat.le_refl _ | (simp; done) | (simp; omega)) _) | (with_reducible refine Ext.stepN ?_ _) | (with_reducible refine Ext.stepD ?_) | (with_reducible refine Ext.stepA ?_ _)))
  · obtain ⟨r, m, rfl, rfl, ok⟩ := grid_ok hc
    rw [newSieveR_y hc] at hv
    simp only [Prod.mk.injEq] at hv
    obtain ⟨rfl, rfl⟩ := hv
    have HC := Lib.hid hc
    have hm5 := ok.n512
    have hmk := run_make_row' (P := Try.prog) 22 4 (.bool false) 1 Try.underlying22 info_bool rfl .i64 .i64 m (by omega) (by omega)
    clear hc ok
    go_enter Try.func23, Try.ntmps23
    go_wp2_with fail
    refine (c_impl_isGrid r S m _ HC.out).mono ?_; rintro e u1 ⟨rfl, x1⟩
    have BZ1 := Lib.hid (BZ.out.on x1)
    have HSZ := Lib.hid (show w.heap.size + 1 ≤ u1.heap.size from Nat.le_trans (by first | omega | (simp; done) | (simp; omega)) x1.size)
    have hne : w.heap.size ≠ u1.heap.size := by have := HSZ.out; omega
    have hne' : u1.heap.size ≠ w.heap.size := fun h => hne h.symm
    obtain ⟨z0, z1, z2⟩ := ((BZ.out.on x1).past (.cells (madeCells #[.bool false] m) 4)).three
    obtain ⟨f0, f1, f2, f3⟩ := ((BZ.out.on x1).past (.cells (madeCells #[.bool false] m) 4)).free
    have HROW := Lib.hid (World.rowIs_made u1 (.bool false) m 4)
    have X1 := (Ext.alloc w (.cells #[.int .i64 0, .int .i64 0, .slice none 0 0] 27)).trans x1
    obtain ⟨wb, hwb⟩ : ∃ wb, u1.alloc (.cells (madeCells #[.bool false] m) 4) = wb := ⟨_, rfl⟩
    rw [hwb] at z0 z1 z2 f0 f1 f2 f3 HROW
    have hmk2 : (Instr.makeSlice 22 (Value.int IntKind.i64 ↑m) (Value.int IntKind.i64 ↑m)).run Try.prog u1 = Result.ok (Value.slice (some { block := u1.heap.size, off := 0 }) m m) wb := by rw [← hwb]; exact hmk u1
    have X2 : Ext w wb := by rw [← hwb]; exact X1.stepA _
    clear x1 hmk hwb BZ1
    go_wp2
    refine bodyPost_ret (v := .tuple #[.agg #[.int .i64 r, .int .i64 S, .slice (some ⟨u1.heap.size, 0, none⟩) m m], .bool true]) (by simp [results, Try.results23, go_sem, z0, z1, z2]) rfl ⟨some ⟨u1.heap.size, 0, none⟩, m, by simp, ?_, ?_⟩
    · simp only [List.length_replicate]
      have hrow := HROW.out
      exact (own_falses (lo := w.heap.size) (by have := HSZ.out; omega) (((hrow.setOther (by simp; omega) _).setOther (by simp; omega) _).setOther (by simp; omega) _))
    · (repeat (first | assumption | exact Ext.refl _ | (with_reducible refine Ext.stepS ?_ (by first | exact Nat.le_refl _ | (simp; done) | (simp; omega)) _) | (with_reducible refine Ext.stepN ?_ _) | (with_reducible refine Ext.stepD ?_) | (with_reducible refine Ext.stepA ?_ _)))
set_option maxHeartbeats 1000000 in
theorem c_spec_NewSieve (n R S : Int) (w : World) {V : SV} {b : Bool} (hv : newSieveR n R S = (V, b)) :
    Calls Try.prog 22 #[.int .i64 n, .int .i64 R, .int .i64 S] w (RetKVB 4 V b w) := by
  have BZ := Lib.hid (Box.alloc w #[.int .i64 0, .int .i64 0, .slice none 0 0] 27)
  cases e1 : inB 1 n 512
  · rw [newSieveR_n (gridB_3 e1)] at hv
    simp only [Prod.mk.injEq] at hv
    obtain ⟨rfl, rfl⟩ := hv
    have H1 := Lib.hid e1
    obtain ⟨z0, z1, z2⟩ := BZ.out.three
    clear e1
    go_enter Try.func22, Try.ntmps22
    go_wp2_with (go_at_call 56; refine (c_l00In_e n 1 512 _ H1.out).mono ?_; rintro e w' ⟨rfl, rfl⟩)
    refine bodyPost_ret (v := .tuple #[.agg #[.int .i64 0, .int .i64 0, .slice none 0 0], .bool false]) (by simp [results, Try.results22, go_sem, z0, z1, z2]) rfl ⟨none, 0, rfl, Own.nil _ _ _ _, ?_⟩
    (repeat (first | assumption | exact Ext.refl _ | (with_reducible refine Ext.stepS ?_ (by first | exact Nat.le_refl _ | (simp; done) | (simp; omega)) _) | (with_reducible refine Ext.stepN ?_ _) | (with_reducible refine Ext.stepD ?_) | (with_reducible refine Ext.stepA ?_ _)))
  cases e2 : inB 1 R 8
  · rw [newSieveR_n (gridB_1 e2)] at hv
    simp only [Prod.mk.injEq] at hv
    obtain ⟨rfl, rfl⟩ := hv
    have H1 := Lib.hid e1
    have H2 := Lib.hid e2
    obtain ⟨z0, z1, z2⟩ := BZ.out.three
    clear e1 e2
    go_enter Try.func22, Try.ntmps22
    go_wp2_with fail
    refine (c_l00In_e n 1 512 _ H1.out).mono ?_; rintro e w' ⟨rfl, rfl⟩
    go_wp2_with fail
    refine (c_l00In_e R 1 8 _ H2.out).mono ?_; rintro e w' ⟨rfl, rfl⟩
    go_wp2
    refine bodyPost_ret (v := .tuple #[.agg #[.int .i64 0, .int .i64 0, .slice none 0 0], .bool false]) (by simp [results, Try.results22, go_sem, z0, z1, z2]) rfl ⟨none, 0, rfl, Own.nil _ _ _ _, ?_⟩
    (repeat (first | assumption | exact Ext.refl _ | (with_reducible refine Ext.stepS ?_ (by first | exact Nat.le_refl _ | (simp; done) | (simp; omega)) _) | (with_reducible refine Ext.stepN ?_ _) | (with_reducible refine Ext.stepD ?_) | (with_reducible refine Ext.stepA ?_ _)))
  cases e3 : keyB S
  · rw [newSieveR_n (gridB_2 e3)] at hv
    simp only [Prod.mk.injEq] at hv
    obtain ⟨rfl, rfl⟩ := hv
    have H1 := Lib.hid e1
    have H2 := Lib.hid e2
    have H3 := Lib.hid e3
    obtain ⟨z0, z1, z2⟩ := BZ.out.three
    clear e1 e2 e3
    go_enter Try.func22, Try.ntmps22
    go_wp2_with fail
    refine (c_l00In_e n 1 512 _ H1.out).mono ?_; rintro e w' ⟨rfl, rfl⟩
    go_wp2_with fail
    refine (c_l00In_e R 1 8 _ H2.out).mono ?_; rintro e w' ⟨rfl, rfl⟩
    go_wp2_with (go_at_call 57; refine (c_spec_l02Key_q S _ H3.out).mono ?_; rintro e w' ⟨rfl, rfl⟩)
    refine bodyPost_ret (v := .tuple #[.agg #[.int .i64 0, .int .i64 0, .slice none 0 0], .bool false]) (by simp [results, Try.results22, go_sem, z0, z1, z2]) rfl ⟨none, 0, rfl, Own.nil _ _ _ _, ?_⟩
    (repeat (first | assumption | exact Ext.refl _ | (with_reducible refine Ext.stepS ?_ (by first | exact Nat.le_refl _ | (simp; done) | (simp; omega)) _) | (with_reducible refine Ext.stepN ?_ _) | (with_reducible refine Ext.stepD ?_) | (with_reducible refine Ext.stepA ?_ _)))
  obtain ⟨r, m, rfl, rfl, ok⟩ := grid_ok (show gridB R S n = true by rw [gridB_yes e2 e1, e3])
  rw [newSieveR_y ok.gridB] at hv
  simp only [Prod.mk.injEq] at hv
  obtain ⟨rfl, rfl⟩ := hv
  have H1 := Lib.hid e1
  have H2 := Lib.hid e2
  have H3 := Lib.hid e3
  have hm5 := ok.n512
  have hmk := run_make_row' (P := Try.prog) 22 4 (.bool false) 1 Try.underlying22 info_bool rfl .i64 .i64 m (by omega) (by omega)
  clear e1 e2 e3 ok
  have hne : w.heap.size ≠ w.heap.size + 1 := by omega
  obtain ⟨z0, z1, z2⟩ := (BZ.out.past (.cells (madeCells #[.bool false] m) 4)).three
  obtain ⟨f0, f1, f2, f3⟩ := (BZ.out.past (.cells (madeCells #[.bool false] m) 4)).free
  obtain ⟨wa, hwa⟩ : ∃ wa, w.alloc (.cells #[.int .i64 0, .int .i64 0, .slice none 0 0] 27) = wa := ⟨_, rfl⟩
  have HAZ := Lib.hid (show wa.heap.size = w.heap.size + 1 by rw [← hwa]; simp)
  have HROW := Lib.hid (World.rowIs_made wa (.bool false) m 4)
  have X1 : Ext w wa := by rw [← hwa]; exact Ext.alloc _ _
  have HWA := Lib.hid hwa
  rw [hwa] at z0 z1 z2 f0 f1 f2 f3
  obtain ⟨wb, hwb⟩ : ∃ wb, wa.alloc (.cells (madeCells #[.bool false] m) 4) = wb := ⟨_, rfl⟩
  rw [hwb] at z0 z1 z2 f0 f1 f2 f3 HROW
  have hmk2 : (Instr.makeSlice 22 (Value.int IntKind.i64 ↑m) (Value.int IntKind.i64 ↑m)).run Try.prog wa = Result.ok (Value.slice (some { block := w.heap.size + 1, off := 0 }) m m) wb := by rw [← hwb, ← HAZ.out]; exact hmk wa
  have X2 : Ext w wb := by rw [← hwb]; exact X1.stepA _
  clear hmk hwb
  go_enter Try.func22, Try.ntmps22
  go_wp2_with fail
  refine (c_l00In_e m 1 512 _ H1.out).mono ?_; rintro e w' ⟨rfl, rfl⟩
  go_wp2_with fail
  refine (c_l00In_e r 1 8 _ H2.out).mono ?_; rintro e w' ⟨rfl, rfl⟩
  go_wp2_with (go_at_call 57; refine (c_spec_l02Key_q S _ H3.out).mono ?_; rintro e w' ⟨rfl, rfl⟩)
  refine bodyPost_ret (v := .tuple #[.agg #[.int .i64 r, .int .i64 S, .slice (some ⟨w.heap.size + 1, 0, none⟩) m m], .bool true]) (by simp [results, Try.results22, go_sem, z0, z1, z2]) rfl ⟨some ⟨w.heap.size + 1, 0, none⟩, m, by simp, ?_, ?_⟩
  · simp only [List.length_replicate]
    have hrow := HROW.out
    rw [HAZ.out] at hrow
    exact (own_falses (lo := w.heap.size) (by omega) (((hrow.setOther (by simp) _).setOther (by simp) _).setOther (by simp) _))
  · (repeat (first | assumption | exact Ext.refl _ | (with_reducible refine Ext.stepS ?_ (by first | exact Nat.le_refl _ | (simp; done) | (simp; omega)) _) | (with_reducible refine Ext.stepN ?_ _) | (with_reducible refine Ext.stepD ?_) | (with_reducible refine Ext.stepA ?_ _)))
end Go.Proofs.Ytfolflkbpdbkcaa
