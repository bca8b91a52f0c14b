/- The median of a few numbers, on both sides. -/
import Derived.Test.YtfbapbgiegploaaMed
import Derived.Test.YtfbapbgiegploaaPlb
namespace Go.Proofs.Ytfbapbgiegploaa
open Go.ChangeShapes Go.WideShapes Go.ChangeAt Go.RowKit
set_option linter.unusedVariables false
set_option maxHeartbeats 2000000 in
theorem c_stable (g n c : Nat) (zs : List Int) (f : Nat → Value) (w : World) (hn1 : 1 ≤ n) (hn : n ≤ 19) (hz : zs.length = n) (hc : n ≤ c) (h : w.rowIs g 2 c (rowT zs f)) :
    Calls Try.prog 271 #[.slice (some ⟨g, 0, none⟩) n c, .int .i64 n, .func (.func 212) #[] #[]] w fun e w' => e = .returned (.tuple #[]) ∧ w'.rowIs g 2 c (rowT (sortN (n - 1) zs) f) ∧ Touch g (g + 1) w w' := by
  have H := Lib.hid h
  have HZ := Lib.hid hz
  have hn' : (n : Int) ≤ 19 := by omega
  have hn2 : (n : Int) < 20 := by omega
  have d1 : ((20 : Int) ≤ (n : Int)) = False := by simp; omega
  clear h hz
  go_enter Try.func271, Try.ntmps271
  go_wp2
  go_loop [7, 8] (fun x y => x = .int .i64 0 ∧ y = .int .i64 20) (fun _ _ => 0)
  case atStart => exact ⟨rfl, rfl⟩
  case round =>
    obtain ⟨rfl, rfl⟩ := hrel
    go_wp2_with fail
    refine (c_insertionSort g n c zs f _ hn1 (by omega) HZ.out hc H.out).mono ?_; rintro e wa ⟨rfl, hr, ht⟩
    have HR := Lib.hid hr
    have HT := Lib.hid ht
    clear hr ht
    go_wp2
    go_loop [6] (fun x => x = .int .i64 20) (fun _ => 0)
    case atStart => rfl
    case round =>
      subst hrel
      go_wp2
      first | go_end0 | (simp only [Exit.inBlock, Exit.then]; refine bodyPost_ret (results_none rfl _ _ _) rfl ?_) | refine bodyPost_ret (results_none rfl _ _ _) rfl ?_
      exact ⟨rfl, HR.out, HT.out⟩
theorem c_SortStable (g n c : Nat) (zs : List Int) (f : Nat → Value) (w : World) (hn1 : 1 ≤ n) (hn : n ≤ 19) (hz : zs.length = n) (hc : n ≤ c) (h : w.rowIs g 2 c (rowT zs f)) :
    Calls Try.prog 211 #[.slice (some ⟨g, 0, none⟩) n c, .func (.func 212) #[] #[]] w fun e w' => e = .returned (.tuple #[]) ∧ w'.rowIs g 2 c (rowT (sortN (n - 1) zs) f) ∧ Touch g (g + 1) w w' := by
  have H := Lib.hid h
  have HZ := Lib.hid hz
  clear h hz
  go_enter Try.func211, Try.ntmps211
  go_wp2_with fail
  refine (c_stable g n c zs f _ hn1 hn HZ.out hc H.out).mono ?_; rintro e wa ⟨rfl, hr, ht⟩
  have HR := Lib.hid hr
  have HT := Lib.hid ht
  clear hr ht
  go_wp2
  first | go_end0 | (simp only [Exit.inBlock, Exit.then]; refine bodyPost_ret (results_none rfl _ _ _) rfl ?_) | refine bodyPost_ret (results_none rfl _ _ _) rfl ?_
  exact ⟨rfl, HR.out, HT.out⟩
set_option maxHeartbeats 1000000 in
theorem c_medianOf (g n c : Nat) (zs : List Int) (f : Nat → Value) (w : World) (hn1 : 1 ≤ n) (hn : n ≤ 19) (hz : zs.length = n) (hc : n ≤ c) (h : w.rowIs g 2 c (rowT zs f)) :
    Calls Try.prog 107 #[.slice (some ⟨g, 0, none⟩) n c] w fun e w' => e = .returned (.int .i64 (medZ zs)) ∧ Touch g (g + 1) w w' := by
  have H := Lib.hid h
  have HZ := Lib.hid hz
  obtain ⟨q, hq⟩ : ∃ q, (n - 1) / 2 = q := ⟨_, rfl⟩
  have hql : q < n := by omega
  have e1 : ((n : Int) - 1) / 2 = (q : Int) := by omega
  have e1' : ((n : Int) - 1).tdiv 2 = (q : Int) := by rw [Int.tdiv_eq_ediv_of_nonneg (by omega)]; omega
  have e2 : (q : Int) < (n : Int) := by omega
  have e3 : (0 : Int) ≤ (q : Int) := by omega
  have e4 : (1 : Int) ≤ (n : Int) := by omega
  have HM := Lib.hid (show (sortN (n - 1) zs)[q]?.getD 0 = medZ zs by unfold medZ; rw [hz, hq])
  clear h hz hq
  go_enter Try.func107, Try.ntmps107
  go_wp2_with fail
  refine (c_SortStable g n c zs f _ hn1 hn HZ.out hc H.out).mono ?_; rintro e wa ⟨rfl, hr, ht⟩
  have hcell := hr.cell (i := q) (by omega)
  rw [rowT_at (by rw [sortN_length, HZ.out]; exact hql), HM.out] at hcell
  have HT := Lib.hid ht
  clear hr ht
  go_wp2
  go_ret
  exact ⟨rfl, HT.out⟩
end Go.Proofs.Ytfbapbgiegploaa
