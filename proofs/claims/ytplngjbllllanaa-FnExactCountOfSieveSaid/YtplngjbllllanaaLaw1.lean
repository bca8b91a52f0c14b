/- The walks of the laws SameNumber, IsFinite, BitsOf, FromBits: each returns true and writes nothing that was there. -/
import Derived.Test.YtplngjbllllanaaCon
import Derived.Below
import Derived.WalkSmall
namespace Go.Proofs.Ytplngjbllllanaa
open Go.ChangeShapes Go.WideShapes Go.ChangeAt Go.RowKit Go.Proofs.Ytplngjbllllanaa.Flo
set_option linter.unusedVariables false
attribute [local go_sem] run_fl_add run_fl_sub run_fl_mul run_fl_quo run_conv run_store_float run_store_complex
theorem wf32 {a : Nat} (h : (Lit.float .f32 a).wf = true) : a < 4294967296 := lt_of_wf h
theorem wf64 {a : Nat} (h : (Lit.float .f64 a).wf = true) : a < 18446744073709551616 := lt_of_wf h
theorem wbelow (w : World) (n : Nat) : Below w.heap.size w (w.drewN n) := below_drewN (Below.refl _ _) n
end Go.Proofs.Ytplngjbllllanaa
