/- CountOfLeast: both sides. -/
import Derived.Test.YtplngjbllllanaaCol
namespace Go.Proofs.Ytplngjbllllanaa
open Go.ChangeShapes Go.WideShapes Go.ChangeAt Go.RowKit Go.Proofs.Ytplngjbllllanaa.Flo
set_option linter.unusedVariables false
end Go.Proofs.Ytplngjbllllanaa
