/- Angles: what flatAngle and the like answer. -/
import Derived.Test.YtplngjbllllanaaCir
import Derived.Test.YtplngjbllllanaaLaw1
namespace Go.Proofs.Ytplngjbllllanaa
open Go.ChangeShapes Go.WideShapes Go.ChangeAt Go.RowKit Go.Proofs.Ytplngjbllllanaa.Flo
set_option linter.unusedVariables false
attribute [local go_sem] unary_neg_float run_store_float run_store_complex ext_Float64bits ext_Float64frombits

abbrev cEight : Option Nat := fv .f64 4620693217682128896
/-- one step towards a flatter angle -/
def tV (t : Option Nat) : Option Nat := fop .quo .f64 t (fop .add .f64 cOne (fsq (fop .add .f64 cOne (fop .mul .f64 t t))))
def tVs (t : Option Nat) : Nat → Option Nat
  | 0 => t
  | j + 1 => tV (tVs t j)
def angP (u : Option Nat) : Nat → Option Nat
  | 0 => cZero
  | j + 1 => fop .sub .f64 (fop .quo .f64 cOne (fv .f64 (floatOfInt .f64 (15 - 2 * (j : Int))))) (fop .mul .f64 u (angP u j))
def flatOf (t : Option Nat) : Option Nat := fop .quo .f64 (fop .mul .f64 cEight (fop .mul .f64 t (angP (fop .mul .f64 t t) 8))) cTau
def flatV (t : Option Nat) : Option Nat := flatOf (tVs t 3)
end Go.Proofs.Ytplngjbllllanaa
