/- FullOfSieve, FalseShare: both sides. -/
import Derived.Test.YtplngjbllllanaaFul
namespace Go.Proofs.Ytplngjbllllanaa
open Go.ChangeShapes Go.WideShapes Go.ChangeAt Go.RowKit Go.Proofs.Ytplngjbllllanaa.Flo
set_option linter.unusedVariables false
attribute [local go_sem] run_fl_add run_fl_sub run_fl_mul run_fl_quo run_conv run_store_float run_store_complex
def powV (F : Option Nat) : Nat → Option Nat
  | 0 => F
  | k + 1 => fop .mul .f32 (powV F k) F
def shareR (R S : Int) (bs : List Bool) : Option Nat × Bool := if gridB R S bs.length then (powV (fullV bs) (R.toNat - 1), true) else (some 0, false)
theorem shareR_no {R S : Int} {bs : List Bool} (h : gridB R S bs.length = false) : shareR R S bs = (some 0, false) := by unfold shareR; rw [h]; rfl
theorem shareR_y {r : Nat} {S : Int} {bs : List Bool} (h : gridB r S bs.length = true) : shareR r S bs = (powV (fullV bs) (r - 1), true) := by unfold shareR; rw [h]; rfl
end Go.Proofs.Ytplngjbllllanaa
