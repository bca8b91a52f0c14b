/- LeastHashes by the program. -/
import Derived.Test.YtplngjbllllanaaDoorSrw
import Derived.Test.YtplngjbllllanaaDoorCom
import Derived.Test.YtplngjbllllanaaDoorRow
namespace Go.Proofs.YtplngjbllllanaaDoor
open Go.ChangeShapes Go.WideShapes Go.ChangeAt Go.RowKit
set_option linter.unusedVariables false
def lhR (zs : List Int) (salt room : Int) : List Int × Bool := if keysB zs && (keyB salt && inB 1 room 256) then (leastD room.toNat (rowZ zs salt), true) else ([], false)
theorem lhR_yes {zs : List Int} {salt room : Int} (h : (keysB zs && (keyB salt && inB 1 room 256)) = true) : lhR zs salt room = (leastD room.toNat (rowZ zs salt), true) := by unfold lhR; rw [h]; rfl
theorem lhR_no {zs : List Int} {salt room : Int} (h : (keysB zs && (keyB salt && inB 1 room 256)) = false) : lhR zs salt room = ([], false) := by unfold lhR; rw [h]; rfl
theorem lhR_le {zs : List Int} {salt room : Int} {rz : List Int} {rb : Bool} (h : lhR zs salt room = (rz, rb)) : rz.length ≤ 1048576 := by
  cases hb : keysB zs && (keyB salt && inB 1 room 256)
  · rw [lhR_no hb] at h; cases h; exact Nat.zero_le _
  · rw [lhR_yes hb] at h; cases h
    simp only [Bool.and_eq_true] at hb
    have := leastD_le room.toNat (rowZ zs salt)
    have := (inB_is.1 hb.2.2).2
    omega
theorem RetSB.of_yes {t : TypeId} {n : Nat} {vs : List Value} {b : Bool} {w w' : World} {a : Option Addr} {c : Nat} (hb : b = true) (o : Own t w' w.heap.size w'.heap.size a n c vs) (x : Ext w w') : RetSB t n vs b w (.returned (.tuple #[.slice a n c, .bool true])) w' := by subst hb; exact ⟨_, _, rfl, o, x⟩
end Go.Proofs.YtplngjbllllanaaDoor
