/- The median of a few numbers, on both sides. -/
import Derived.Test.YtjckikcndoobnaaMed
import Derived.Test.YtjckikcndoobnaaPlb
namespace Go.Proofs.Ytjckikcndoobnaa
open Go.ChangeShapes Go.WideShapes Go.ChangeAt Go.RowKit
set_option linter.unusedVariables false
end Go.Proofs.Ytjckikcndoobnaa
