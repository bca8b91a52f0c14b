/- Least and greatest last ones by the program. -/
import Derived.Test.YtplngjbllllanaaLmn
import Derived.Test.YtplngjbllllanaaLmx
import Derived.Test.YtplngjbllllanaaCis3
namespace Go.Proofs.Ytplngjbllllanaa
open Go.ChangeShapes Go.WideShapes Go.ChangeAt Go.RowKit
set_option linter.unusedVariables false
theorem readB_1 {zs : List Int} {long : Int} (h : inB 1 (zs.length : Int) 128 = false) : readB zs long = false := by
  unfold inB at h
  have h' := of_decide_eq_false h
  unfold readB; rw [decide_eq_false (by omega)]; rfl
theorem readB_2 {zs : List Int} {long : Int} (h : manyB 1000000 zs = false) : readB zs long = false := by unfold readB; rw [h]; simp
theorem readB_3 {zs : List Int} {long : Int} (h : inB 1 long 128 = false) : readB zs long = false := by
  unfold readB; rw [show decide (1 ≤ long ∧ long ≤ 128) = false from h]; simp
theorem readB_y {zs : List Int} {long : Int} (h1 : inB 1 (zs.length : Int) 128 = true) (h2 : manyB 1000000 zs = true) (h3 : inB 1 long 128 = true) : readB zs long = true := by
  have h' := inB_is.1 h1
  unfold readB; rw [decide_eq_true (by omega), h2, show decide (1 ≤ long ∧ long ≤ 128) = true from h3]; rfl
theorem retB7 {a b : Bool} (h : a = b) : Ending.returned (.bool a) = Ending.returned (.bool b) := by rw [h]
theorem c_areWithin_q (a : Option Addr) (n cap : Nat) (zs : List Int) (m : Int) (w : World) {r : Bool} (m0 : 0 ≤ m) (m1 : m ≤ 1000000000000) (hm : n ≤ maxLen) (hr : manyB m zs = r) (h : Reads w a n (ints zs)) :
    Calls Try.prog 144 #[.slice a n cap, .int .i64 m] w fun e w' => e = .returned (.bool r) ∧ Ext w w' :=
  (c_impl_areWithin a n cap zs m w m0 m1 hm hr h).mono (by
    rintro e w' ⟨rfl, hw⟩
    refine ⟨rfl, ?_⟩
    first | (subst hw; exact Ext.refl _) | (rw [hw]; exact Ext.refl _) | (rw [← hw]; exact Ext.refl _) | (obtain ⟨q, rfl⟩ := hw; exact Ext.drewN _ _))
theorem c_impl_isStreamSize_s (n : Int) (w : World) {b : Bool} (h : inB 1 n 128 = b) : Calls Try.prog 143 #[.int .i64 n] w fun e w' => e = .returned (.bool b) ∧ w = w' := by
  unfold inB at h
  by_cases h1 : 1 ≤ n
  · by_cases h2 : n ≤ 128
    · have H := Lib.hid (show b = true by rw [← h]; exact decide_eq_true ⟨h1, h2⟩)
      clear h
      go_enter Try.func143, Try.ntmps143
      go_wp2
      go_ret
      exact ⟨retB7 H.out.symm, rfl⟩
    · have H := Lib.hid (show b = false by rw [← h]; exact decide_eq_false (by omega))
      have h3 : 128 < n := by omega
      clear h
      go_enter Try.func143, Try.ntmps143
      go_wp2
      go_ret
      exact ⟨retB7 H.out.symm, rfl⟩
  · have H := Lib.hid (show b = false by rw [← h]; exact decide_eq_false (by omega))
    have h3 : n < 1 := by omega
    clear h
    go_enter Try.func143, Try.ntmps143
    go_wp2
    go_ret
    exact ⟨retB7 H.out.symm, rfl⟩
end Go.Proofs.Ytplngjbllllanaa
