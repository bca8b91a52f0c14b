/- The sine as the other side computes it. -/
import Derived.Test.YtplngjbllllanaaCir
namespace Go.Proofs.Ytplngjbllllanaa
open Go.ChangeShapes Go.WideShapes Go.ChangeAt Go.RowKit Go.Proofs.Ytplngjbllllanaa.Flo
set_option linter.unusedVariables false
attribute [local go_sem] unary_neg_float run_conv run_store_float run_store_complex ext_Float64bits ext_Float64frombits
end Go.Proofs.Ytplngjbllllanaa
