/- Cells: puts, on both sides. -/
import Derived.Test.YtgejfeedcphfkaaDoorPla
import Derived.Deep.RegionHeld3
import Derived.Deep.RegionLaw
import Derived.Deep.AppendLies
namespace Go.Proofs.YtgejfeedcphfkaaDoor
open Go.ChangeShapes Go.WideShapes Go.ChangeAt Go.RowKit
set_option linter.unusedVariables false
theorem Touch.of_drew {lo hi : Nat} {w w' : World} (h : Touch lo hi w w') (q : Nat) : Touch lo hi w (w'.drewN q) := h.trans (Touch.of_ext (Ext.drewN _ _) _ _)
theorem Touch.one {w w' : World} {g : Nat} (h : Touch g (g + 1) w w') (i : Nat) (v : Value) : Touch g (g + 1) w (w'.setCell ⟨g, i, none⟩ v) := h.trans (Touch.setCell _ (a := ⟨g, i, none⟩) (Nat.le_refl _) (Nat.lt_succ_self _) _)
theorem wrap_put {x y : Int} (h1 : -1000000000000 ≤ x) (h2 : x ≤ 1000000000000) (h3 : -1000000 ≤ y) (h4 : y ≤ 1000000) : IntKind.i64.wrap (x + y) = x + y := by rw [IntKind.wrap_i64]; omega
end Go.Proofs.YtgejfeedcphfkaaDoor
