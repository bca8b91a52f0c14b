/- Slices of slices: what the laws' helpers answer. -/
import Derived.Test.YtibldgcfplpdkaaSsl
import Derived.Test.YtibldgcfplpdkaaBls
import Derived.Deep.LoopGhost
namespace Go.Proofs.Ytibldgcfplpdkaa
open Go.ChangeShapes Go.WideShapes Go.ChangeAt Go.RowKit
set_option linter.unusedVariables false
theorem bmarks_len_B (s n : Nat) : (bmarks s n).length = n := by simp [bmarks]
end Go.Proofs.Ytibldgcfplpdkaa
