/- The list of the greatest last ones of each index, by the program. -/
import Derived.Test.YtplngjbllllanaaLor
namespace Go.Proofs.Ytplngjbllllanaa
open Go.ChangeShapes Go.WideShapes Go.ChangeAt Go.RowKit Go.Shelf
set_option linter.unusedVariables false
attribute [local go_sem] Oper.semAt_some
end Go.Proofs.Ytplngjbllllanaa
