/- changeCells: the program's side, for any function that changes a count. -/
import Derived.Test.YtgejfeedcphfkaaDoorPlb
import Derived.Deep.DeepCutAuto
import Derived.Deep.LoopGhost
import Derived.Lib.SmallJoins
namespace Go.Proofs.YtgejfeedcphfkaaDoor
open Go.ChangeShapes Go.WideShapes Go.ChangeAt Go.RowKit
set_option linter.unusedVariables false
theorem Box.put {w : World} {b : Nat} {t : TypeId} {vs : Array Value} (h : Box w b t vs) (i : Nat) (v : Value) : Box (w.setCell ⟨b, i, none⟩ v) b t (vs.setIfInBounds i v) := Go.Joins.block_setCell h v
theorem Box.other {w : World} {b : Nat} {t : TypeId} {vs : Array Value} (h : Box w b t vs) {a : Addr} (ha : b ≠ a.block) (v : Value) : Box (w.setCell a v) b t vs := (Below.heap_setCell _ _ _ _ (fun e => ha e)).trans h
end Go.Proofs.YtgejfeedcphfkaaDoor
