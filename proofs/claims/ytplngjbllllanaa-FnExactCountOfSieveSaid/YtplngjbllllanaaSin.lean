/- SineTurns: what both functions answer; the law's walk. -/
import Derived.Test.YtplngjbllllanaaCis
import Derived.Test.YtplngjbllllanaaFcs
import Derived.Test.YtplngjbllllanaaLaw1
namespace Go.Proofs.Ytplngjbllllanaa
open Go.ChangeShapes Go.WideShapes Go.ChangeAt Go.RowKit Go.Proofs.Ytplngjbllllanaa.Flo
set_option linter.unusedVariables false
attribute [local go_sem] unary_neg_float run_store_float run_store_complex ext_Float64bits ext_Float64frombits

theorem c_math_NaN (w : World) : Calls Try.prog 160 #[] w fun e w' => e = .returned (.float .f64 9221120237041090561) ∧ w = w' := by
  go_enter Try.func160, Try.ntmps160
  go_wp2
  go_ret
  exact ⟨rfl, rfl⟩
theorem nan64 : fv .f64 9221120237041090561 = none := by kernel_rfl
end Go.Proofs.Ytplngjbllllanaa
