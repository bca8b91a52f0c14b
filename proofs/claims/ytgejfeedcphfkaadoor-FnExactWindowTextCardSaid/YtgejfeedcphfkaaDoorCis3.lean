/- Cells: valid, on both sides. -/
import Derived.Test.YtgejfeedcphfkaaDoorCel
import Derived.Test.YtgejfeedcphfkaaDoorRow
import Derived.Deep.QuietTactic
import Derived.BigQuiet
import Derived.Deep.RegionWith
namespace Go.Proofs.YtgejfeedcphfkaaDoor
open Go.ChangeShapes Go.WideShapes Go.ChangeAt Go.RowKit
set_option linter.unusedVariables false
theorem retB {a b : Bool} (h : a = b) : Ending.returned (.bool a) = Ending.returned (.bool b) := by rw [h]
theorem c_l00In_b (k lo hi : Int) (w : World) {b : Bool} (h : inB lo k hi = b) : Calls Tryd.prog 75 #[.int .i64 k, .int .i64 lo, .int .i64 hi] w fun e w' => e = .returned (.bool b) ∧ w' = w := by
  subst h; exact (c_l00In k lo hi w).mono (by rintro e w' ⟨rfl, rfl⟩; exact ⟨rfl, rfl⟩)
theorem c_spec_l02Key_b (k : Int) (w : World) {b : Bool} (h : keyB k = b) : Calls Tryd.prog 73 #[.int .i64 k] w fun e w' => e = .returned (.bool b) ∧ w' = w := by
  subst h; exact (c_spec_l02Key k w).mono (by rintro e w' ⟨rfl, rfl⟩; exact ⟨rfl, rfl⟩)
theorem mul_wrap {m d : Nat} (h1 : m ≤ 64) (h2 : d ≤ 6) : IntKind.i64.wrap ((m : Int) * (d : Int)) = ((m * d : Nat) : Int) := by
  have : m * d ≤ 64 * 6 := Nat.mul_le_mul h1 h2
  rw [← Int.natCast_mul, IntKind.wrap_i64]
  omega
theorem many_mk {m : Int} {zs : List Int} (h : ∀ i, i < zs.length → inB (-m) (zs[i]?.getD 0) m = true) : manyB m zs = true := manyB_mk fun i hi => inB_is.1 (h i hi)
theorem many_in {m : Int} {zs : List Int} (h : manyB m zs = true) {i : Nat} (hi : i < zs.length) : inB (-m) (zs[i]?.getD 0) m = true := inB_is.2 (manyB_at h hi)
theorem many_no {m : Int} {zs : List Int} {i : Nat} (hi : i < zs.length) {x : Int} (hx : zs[i]?.getD 0 = x) (h : inB (-m) x m = false) : manyB m zs = false := by
  refine manyB_bad hi fun hc => ?_
  rw [hx] at hc
  rw [inB_is.2 hc] at h
  cases h
theorem c_impl_IsKey_b (k : Int) (w : World) {b : Bool} (h : keyB k = b) : Calls Tryd.prog 78 #[.int .i64 k] w fun e w' => e = .returned (.bool b) ∧ w' = w := by
  subst h; exact (c_impl_IsKey k w).mono (by rintro e w' ⟨rfl, rfl⟩; exact ⟨rfl, rfl⟩)
theorem sidesB_1 {W D S : Int} (h : W < 2) : sidesB W D S = false := by unfold sidesB inB; rw [decide_eq_false (by omega)]; rfl
theorem sidesB_2 {W D S : Int} (h : 64 < W) : sidesB W D S = false := by unfold sidesB inB; rw [decide_eq_false (by omega)]; rfl
theorem sidesB_3 {W D S : Int} (h : D < 1) : sidesB W D S = false := by unfold sidesB inB; rw [decide_eq_false (show ¬ (1 ≤ D ∧ D ≤ 6) by omega)]; simp
theorem sidesB_4 {W D S : Int} (h : 6 < D) : sidesB W D S = false := by unfold sidesB inB; rw [decide_eq_false (show ¬ (1 ≤ D ∧ D ≤ 6) by omega)]; simp
theorem sidesB_5 {W D S : Int} (h1 : 2 ≤ W) (h2 : W ≤ 64) (h3 : 1 ≤ D) (h4 : D ≤ 6) : sidesB W D S = keyB S := by unfold sidesB inB; rw [decide_eq_true ⟨h1, h2⟩, decide_eq_true ⟨h3, h4⟩]; rfl
end Go.Proofs.YtgejfeedcphfkaaDoor
