/- CountOfLeast: both sides. -/
import Derived.Test.YtfmjohpmfcmpoabCol
namespace Go.Proofs.Ytfmjohpmfcmpoab
open Go.ChangeShapes Go.WideShapes Go.ChangeAt Go.RowKit Go.Proofs.Ytfmjohpmfcmpoab.Flo
set_option linter.unusedVariables false
end Go.Proofs.Ytfmjohpmfcmpoab
