/- What each function of this seat answers: one contract a function, callees first. -/
import Derived.Test.YtdbllnmhlfkhbaaRows
import Derived.WalkKit
import Derived.ProofKit
import Derived.OpenShut
import Derived.WalkLawsBesides
import Derived.Handy
import Derived.Deep.QuietTactic
import Derived.BigQuiet
import Derived.Lib.Hide
import Derived.Test.YtdbllnmhlfkhbaaFlo
namespace Go.Proofs.Ytdbllnmhlfkhbaa
open Go.ChangeShapes Go.WideShapes Go.ChangeAt Go.RowKit Go.Proofs.Ytdbllnmhlfkhbaa.Flo
set_option linter.unusedVariables false
attribute [local go_sem] run_fl_add run_fl_sub run_fl_mul run_fl_quo run_conv run_store_float run_store_complex

/-- laws.sameFloat: at values that are the same -/
theorem c_sameFloat (x y : Nat) (w : World) (h : fv .f64 x = fv .f64 y) : Calls Try.prog 39 #[.float .f64 x, .float .f64 y] w fun e w' => e = .returned (.bool true) ∧ ∃ n, w' = w.drewN n := by
  have hx := order_self .f64 x
  have hy := order_self .f64 y
  rcases fv_cases .f64 x with ⟨hn, hf⟩ | ⟨hn, hf⟩
  · rcases fv_cases .f64 y with ⟨hn', hf'⟩ | ⟨hn', hf'⟩
    · rw [hn] at hx
      rw [hn'] at hy
      have hx' : (FloatKind.f64.format.order x x != some .eq) = !(FloatKind.f64.format.order x x == some .eq) := rfl
      rw [hx] at hx'
      have hy' : (FloatKind.f64.format.order y y != some .eq) = !(FloatKind.f64.format.order y y == some .eq) := rfl
      rw [hy] at hy'
      clear h hf hf' hn hn' hx hy
      go_enter Try.func39, Try.ntmps39
      go_wp2
      go_ret
      exact ⟨rfl, 0, rfl⟩
    · rw [hf, hf'] at h; cases h
  · rcases fv_cases .f64 y with ⟨hn', hf'⟩ | ⟨hn', hf'⟩
    · rw [hf, hf'] at h; cases h
    · rw [hf, hf'] at h
      obtain rfl := Option.some.inj h
      rw [hn] at hx
      have hx' : (FloatKind.f64.format.order x x != some .eq) = !(FloatKind.f64.format.order x x == some .eq) := rfl
      rw [hx] at hx'
      have HX := Lib.hid hx
      clear h hf hf' hn hn' hy hx
      go_enter Try.func39, Try.ntmps39
      go_wp2
      · go_ret
        exact ⟨ret_bool (by rw [order_flR, order_flR]; simp), _, rfl⟩
      · go_ret
        exact ⟨by have := HX.out; simp [this], 0, rfl⟩
end Go.Proofs.Ytdbllnmhlfkhbaa
