/- Sieves: valid, new, in, on both sides. -/
import Derived.Test.YtgejfeedcphfkaaDoorGri
import Derived.Test.YtgejfeedcphfkaaDoorBls
namespace Go.Proofs.YtgejfeedcphfkaaDoor
open Go.ChangeShapes Go.WideShapes Go.ChangeAt Go.RowKit
set_option linter.unusedVariables false
set_option maxHeartbeats 4000000 in
theorem c_spec_l04Is (b : Nat) (R S : Int) (a : Option Addr) (n cap : Nat) (w : World) {r : Bool} (hr : gridB R S n = r)
    (hb : Box w b 37 #[.int .i64 R, .int .i64 S, .slice a n cap]) (hm : n ≤ maxLen) :
    Calls Tryd.prog 49 #[.pointer (some ⟨b, 0, none⟩)] w fun e w' => e = .returned (.bool r) ∧ ∃ q, w' = w.drewN q := by
  obtain ⟨h0, h1, h2⟩ := hb.three
  unfold maxLen at hm
  clear hb
  cases e1 : inB 1 R 8
  · have H1 := Lib.hid e1
    have HR := Lib.hid (show r = false by rw [← hr]; exact gridB_1 e1)
    clear e1 hr
    go_enter Tryd.func49, Tryd.ntmps49
    go_wp2_with (go_at_call 75; refine (c_l00In_e R 1 8 _ H1.out).mono ?_; rintro e w' ⟨rfl, rfl⟩)
    go_ret
    exact ⟨retB (by first | exact HR.out.symm | (rw [HR.out]; exact decide_eq_true (by omega)) | (rw [HR.out]; exact decide_eq_false (by omega)) | (rw [HR.out]; simp; omega)), 0, rfl⟩
  have H1 := Lib.hid e1
  cases e2 : keyB S
  · have H2 := Lib.hid e2
    have HR := Lib.hid (show r = false by rw [← hr]; exact gridB_2 e2)
    clear e1 e2 hr
    go_enter Tryd.func49, Tryd.ntmps49
    go_wp2_with (first | (go_at_call 75; refine (c_l00In_e R 1 8 _ H1.out).mono ?_; rintro e w' ⟨rfl, rfl⟩) | (go_at_call 73; refine (c_spec_l02Key_q S _ H2.out).mono ?_; rintro e w' ⟨rfl, rfl⟩))
    go_ret
    exact ⟨retB (by first | exact HR.out.symm | (rw [HR.out]; exact decide_eq_true (by omega)) | (rw [HR.out]; exact decide_eq_false (by omega)) | (rw [HR.out]; simp; omega)), 0, rfl⟩
  have H2 := Lib.hid e2
  by_cases h3 : n < 1
  · have h3' : (n : Int) < 1 := by omega
    have HR := Lib.hid (show r = false by rw [← hr]; exact gridB_3 (in_lo (by omega)))
    clear e1 e2 hr h3
    go_enter Tryd.func49, Tryd.ntmps49
    go_wp2_with (first | (go_at_call 75; refine (c_l00In_e R 1 8 _ H1.out).mono ?_; rintro e w' ⟨rfl, rfl⟩) | (go_at_call 73; refine (c_spec_l02Key_q S _ H2.out).mono ?_; rintro e w' ⟨rfl, rfl⟩))
    go_ret
    exact ⟨retB (by first | exact HR.out.symm | (rw [HR.out]; exact decide_eq_true (by omega)) | (rw [HR.out]; exact decide_eq_false (by omega)) | (rw [HR.out]; simp; omega)), 0, rfl⟩
  by_cases h4 : 512 < n
  · have h4' : (512 : Int) < (n : Int) := by omega
    have HR := Lib.hid (show r = false by rw [← hr]; exact gridB_3 (in_hi (by omega)))
    clear e1 e2 hr h4
    go_enter Tryd.func49, Tryd.ntmps49
    go_wp2_with (first | (go_at_call 75; refine (c_l00In_e R 1 8 _ H1.out).mono ?_; rintro e w' ⟨rfl, rfl⟩) | (go_at_call 73; refine (c_spec_l02Key_q S _ H2.out).mono ?_; rintro e w' ⟨rfl, rfl⟩))
    go_ret
    exact ⟨retB (by first | exact HR.out.symm | (rw [HR.out]; exact decide_eq_true (by omega)) | (rw [HR.out]; exact decide_eq_false (by omega)) | (rw [HR.out]; simp; omega)), 0, rfl⟩
  have h3' : (1 : Int) ≤ (n : Int) := by omega
  have h4' : (n : Int) ≤ 512 := by omega
  have HR := Lib.hid (show r = true by rw [← hr, gridB_yes e1 (in_yes (by omega) (by omega)), e2])
  clear e1 e2 hr h3 h4
  go_enter Tryd.func49, Tryd.ntmps49
  go_wp2_with (first | (go_at_call 75; refine (c_l00In_e R 1 8 _ H1.out).mono ?_; rintro e w' ⟨rfl, rfl⟩) | (go_at_call 73; refine (c_spec_l02Key_q S _ H2.out).mono ?_; rintro e w' ⟨rfl, rfl⟩))
  go_ret
  exact ⟨retB (by first | exact HR.out.symm | (rw [HR.out]; exact decide_eq_true (by omega)) | (rw [HR.out]; exact decide_eq_false (by omega)) | (rw [HR.out]; simp; omega)), 0, rfl⟩
theorem c_impl_ValidSieve_n (R S : Int) (a : Option Addr) (n cap : Nat) (w : World) {r : Bool} (hr : gridB R S n = r) (hm : n ≤ maxLen) :
    Calls Tryd.prog 52 #[.agg #[.int .i64 R, .int .i64 S, .slice a n cap]] w fun e w' => e = .returned (.bool r) ∧ Ext w w' := by
  have HS := Lib.hid hr
  clear hr
  go_enter Tryd.func52, Tryd.ntmps52
  go_wp2_with fail
  refine (c_impl_gridOfSieve R S a n cap _).mono ?_; rintro e u1 ⟨rfl, x1⟩
  go_wp2_with fail
  refine (c_impl_isGrid R S n _ HS.out).mono ?_; rintro e u2 ⟨rfl, x2⟩
  have X := Lib.hid (x1.trans x2)
  clear x1 x2
  go_wp2
  go_ret
  exact ⟨rfl, by first | exact X.out | exact (Ext.alloc _ _).trans X.out⟩
theorem c_impl_ValidSieve (R S : Int) (a : Option Addr) (n cap : Nat) (zs : List Bool) (w : World) {r : Bool} (hr : gridB R S zs.length = r) (hm : n ≤ maxLen) (h : Reads w a n (bools zs)) :
    Calls Tryd.prog 52 #[.agg #[.int .i64 R, .int .i64 S, .slice a n cap]] w fun e w' => e = .returned (.bool r) ∧ Ext w w' := by
  have hz := h.bool.1
  subst hz
  exact c_impl_ValidSieve_n R S a zs.length cap w hr hm
def newSieveR (n R S : Int) : SV × Bool := if gridB R S n then (⟨R, S, List.replicate n.toNat false⟩, true) else (SV.no, false)
theorem newSieveR_n {n R S : Int} (h : gridB R S n = false) : newSieveR n R S = (SV.no, false) := by unfold newSieveR; rw [h]; rfl
theorem newSieveR_y {n : Nat} {R S : Int} (h : gridB R S n = true) : newSieveR n R S = (⟨R, S, List.replicate n false⟩, true) := by unfold newSieveR; rw [h]; simp
theorem newSieveR_le {n R S rR rS : Int} {rz : List Bool} {rb : Bool} (h : newSieveR n R S = (⟨rR, rS, rz⟩, rb)) : rz.length ≤ 1048576 := by
  unfold newSieveR at h
  split at h
  · rename_i hc
    obtain ⟨r, m, rfl, rfl, ok⟩ := grid_ok hc
    have := ok.n512
    simp only [Prod.mk.injEq, SV.mk.injEq] at h
    rw [← h.1.2.2, List.length_replicate]; simp; omega
  · simp only [Prod.mk.injEq, SV.no, SV.mk.injEq] at h
    rw [← h.1.2.2]; exact Nat.zero_le _
theorem madeB_reads {n : Nat} : bools (List.replicate n false) = List.replicate n (.bool false) := by simp [bools]
theorem own_falses {w' : World} {t : TypeId} {g lo L : Nat} (hg : lo ≤ g) (h : w'.rowIs g t L (fun _ => .bool false)) : Own t w' lo w'.heap.size (some ⟨g, 0, none⟩) L L (bools (List.replicate L false)) :=
  own_made (by simp [bools]) hg h (fun i hi => by rw [bools_get _ i (by simpa using hi)]; simp [hi])
theorem own_madeB {w : World} {t : TypeId} {n : Nat} : Own t (w.alloc (.cells (madeCells #[.bool false] n) t)) w.heap.size (w.heap.size + 1) (some ⟨w.heap.size, 0, none⟩) n n (bools (List.replicate n false)) :=
  ⟨by simp [bools], Nat.le_refl _, .inr ⟨w.heap.size, _, rfl, Nat.le_refl _, Nat.lt_succ_self _, World.rowIs_made _ _ _ _, fun i hi => by simp [bools, hi]⟩⟩
end Go.Proofs.YtgejfeedcphfkaaDoor
