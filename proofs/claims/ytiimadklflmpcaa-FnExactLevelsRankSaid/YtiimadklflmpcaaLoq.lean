/- The iterator over the last ones of each index. -/
import Derived.RangeFuncNested
import Derived.RangeFuncBound
import Derived.RangeFuncCalls
import Derived.RangeFuncLeaves
import Derived.Shelf.Abstract
import Derived.Shelf.RegionOpen
import Derived.WalkKit
import Derived.OwnWalkIn
import Derived.TacticsInMore
import Derived.LoopNIn
import Derived.LoopIn
import Derived.Test.YtiimadklflmpcaaLop
namespace Go.Proofs.Ytiimadklflmpcaa
open Go.ChangeShapes Go.WideShapes Go.ChangeAt Go.RowKit Go.Shelf
set_option linter.unusedVariables false
attribute [local go_sem] Oper.semAt_some
/-- a place below n -/
abbrev At (n : Nat) := { k : Nat // k < n }
def lastV (b off long : Nat) (k : Nat) : Value := .slice (some ⟨b, off + (k + 1 - long), none⟩) (k + 1 - (k + 1 - long)) (k + 1 - (k + 1 - long))
def lastE (b off long n : Nat) (x : At n) : Array Value := #[.int .i64 (x.1 : Int), lastV b off long x.1]
def uptoA (n : Nat) : (k : Nat) → k ≤ n → List (At n)
  | 0, _ => []
  | k + 1, h => uptoA n k (by omega) ++ [⟨k, by omega⟩]
theorem uptoA_length (n : Nat) : ∀ (k : Nat) (h : k ≤ n), (uptoA n k h).length = k
  | 0, _ => rfl
  | k + 1, h => by unfold uptoA; rw [List.length_append, uptoA_length n k]; rfl
theorem uptoA_mem (n : Nat) : ∀ (k : Nat) (h : k ≤ n) (i : Nat) (hi : i < k), (⟨i, by omega⟩ : At n) ∈ uptoA n k h
  | 0, _, i, hi => absurd hi (Nat.not_lt_zero _)
  | k + 1, h, i, hi => by
    unfold uptoA
    by_cases e : i = k
    · subst e; exact List.mem_append.2 (.inr (by simp))
    · exact List.mem_append.2 (.inl (uptoA_mem n k (by omega) i (by omega)))
/-- all below m but block g lies as it lay -/
def KpG (m g : Nat) (W W' : World) : Prop := W.heap.size ≤ W'.heap.size ∧ ∀ k, k < m → k ≠ g → W'.heap[k]? = W.heap[k]?
theorem KpG.trans {m g : Nat} {A B C : World} (h : KpG m g A B) (k : KpG m g B C) : KpG m g A C := ⟨Nat.le_trans h.1 k.1, fun j hj hg => (k.2 j hj hg).trans (h.2 j hj hg)⟩
theorem KpG.refl (m g : Nat) (W : World) : KpG m g W W := ⟨Nat.le_refl _, fun _ _ _ => rfl⟩
theorem KpG.cell {m g : Nat} {W W' : World} (h : KpG m g W W') {b o : Nat} (hb : b < m) (hg : b ≠ g) {v : Value} (hc : W.cell? ⟨b, o, none⟩ = some v) : W'.cell? ⟨b, o, none⟩ = some v := by
  rw [World.cell?_of_block (w := W) (h.2 b hb hg)]; exact hc
end Go.Proofs.Ytiimadklflmpcaa
