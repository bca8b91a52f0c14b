/- CountOfLeast: both sides. -/
import Derived.Test.YtplngjbllllanaaDoorCol
namespace Go.Proofs.YtplngjbllllanaaDoor
open Go.ChangeShapes Go.WideShapes Go.ChangeAt Go.RowKit Go.Proofs.YtplngjbllllanaaDoor.Flo
set_option linter.unusedVariables false
end Go.Proofs.YtplngjbllllanaaDoor
