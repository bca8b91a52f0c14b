/- Cells: what the laws' helpers answer. -/
import Derived.Test.YtplngjbllllanaaDoorCis3
namespace Go.Proofs.YtplngjbllllanaaDoor
open Go.ChangeShapes Go.WideShapes Go.ChangeAt Go.RowKit
set_option linter.unusedVariables false
theorem Touch.stepS {lo hi : Nat} {w u : World} (h : Touch lo hi w u) {a : Addr} (h1 : lo ≤ a.block) (h2 : a.block < hi) (v : Value) : Touch lo hi w (u.setCell a v) := h.trans (Touch.setCell _ h1 h2 _)
theorem Touch.stepA {lo hi : Nat} {w u : World} (h : Touch lo hi w u) (o : Obj) : Touch lo hi w (u.alloc o) := h.trans (Touch.of_ext (Ext.alloc _ _) _ _)
theorem Touch.stepN {lo hi : Nat} {w u : World} (h : Touch lo hi w u) (n : Nat) : Touch lo hi w (u.drewN n) := h.trans (Touch.of_ext (Ext.drewN _ _) _ _)
theorem own_touch {t : TypeId} {u w' : World} {lo hi lo' hi' lo2 n c : Nat} {a : Option Addr} {vs : List Value} (h : Own t u lo hi a n c vs) (T : Touch lo' hi' u w') (hd : hi ≤ lo' ∨ hi' ≤ lo) (h1 : lo2 ≤ lo) (h2 : hi ≤ u.heap.size) : Own t w' lo2 w'.heap.size a n c vs :=
  (h.beside T hd).wide h1 (Nat.le_trans h2 T.size)
/-- marks in cells -/
def RetMarkC (t : TypeId) (lo hi : Nat) (a : Option Addr) (n c k : Nat) (w : World) (e : Ending) (w' : World) : Prop := RetMark t lo hi a n c k w e w'
end Go.Proofs.YtplngjbllllanaaDoor
