/- Pairs of indices that are told to be pairs, in the order in which they are told. No program. -/
import Derived.Test.YtibldgcfplpdkaaAll
namespace Go.Proofs.Ytibldgcfplpdkaa
open Go Go.RowKit
set_option linter.unusedVariables false
def prOne (p : Nat → Nat → Bool) (i k : Nat) : List Int := if p i k = true then [(i : Int), (k : Int)] else []
/-- of the index i with the first j behind it -/
def prRow (p : Nat → Nat → Bool) (i : Nat) : Nat → List Int
  | 0 => []
  | j + 1 => prRow p i j ++ prOne p i (i + 1 + j)
/-- of the first i indices with all behind them -/
def prAll (p : Nat → Nat → Bool) (n : Nat) : Nat → List Int
  | 0 => []
  | i + 1 => prAll p n i ++ prRow p i (n - (i + 1))
theorem prOne_yes {p : Nat → Nat → Bool} {i k : Nat} (h : p i k = true) : prOne p i k = [(i : Int), (k : Int)] := if_pos h
theorem prOne_no {p : Nat → Nat → Bool} {i k : Nat} (h : p i k = false) : prOne p i k = [] := if_neg (by rw [h]; decide)
theorem prOne_le (p : Nat → Nat → Bool) (i k : Nat) : (prOne p i k).length ≤ 2 := by unfold prOne; split <;> simp
theorem prRow_le (p : Nat → Nat → Bool) (i : Nat) : ∀ j, (prRow p i j).length ≤ 2 * j
  | 0 => Nat.le_refl _
  | j + 1 => by
    have h1 := prRow_le p i j
    have h2 := prOne_le p i (i + 1 + j)
    show (prRow p i j ++ prOne p i (i + 1 + j)).length ≤ _
    rw [List.length_append]; omega
theorem prAll_le (p : Nat → Nat → Bool) (n : Nat) : ∀ i, (prAll p n i).length ≤ 2 * n * i
  | 0 => Nat.zero_le _
  | i + 1 => by
    have h1 := prAll_le p n i
    have h2 := prRow_le p i (n - (i + 1))
    show (prAll p n i ++ prRow p i (n - (i + 1))).length ≤ _
    rw [List.length_append, Nat.mul_succ]; omega
/-- whether each can be told -/
def okRow (q : Nat → Nat → Bool) (i j : Nat) : Bool := allTo j fun t => q i (i + 1 + t)
def okAll (q : Nat → Nat → Bool) (n i : Nat) : Bool := allTo i fun s => okRow q s (n - (s + 1))
theorem okAll_no {q : Nat → Nat → Bool} {n i k : Nat} (h1 : i < k) (h2 : k < n) (h : q i k = false) : okAll q n n = false :=
  allTo_no (i := i) (by omega) (allTo_no (i := k - (i + 1)) (by omega) (by rw [show i + 1 + (k - (i + 1)) = k by omega]; exact h))
theorem okAll_yes {q : Nat → Nat → Bool} {n : Nat} (h : ∀ i k, i < k → k < n → q i k = true) : okAll q n n = true :=
  allTo_yes fun i hi => allTo_yes fun j hj => h i (i + 1 + j) (by omega) (by omega)
def pairsR (p q : Nat → Nat → Bool) (n : Nat) : List Int × Bool := if okAll q n n = true then (prAll p n n, true) else ([], false)
theorem pairsR_yes {p q : Nat → Nat → Bool} {n : Nat} (h : okAll q n n = true) : pairsR p q n = (prAll p n n, true) := if_pos h
theorem pairsR_no {p q : Nat → Nat → Bool} {n : Nat} (h : okAll q n n = false) : pairsR p q n = ([], false) := if_neg (by rw [h]; decide)
theorem pairsR_le {p q : Nat → Nat → Bool} {n : Nat} {rz : List Int} {rb : Bool} (hn : n ≤ 32) (h : pairsR p q n = (rz, rb)) : rz.length ≤ 1048576 := by
  cases hq : okAll q n n
  · rw [pairsR_no hq] at h; cases h; exact Nat.zero_le _
  · rw [pairsR_yes hq] at h; cases h
    have h1 := prAll_le p n n
    have h2 : 2 * n * n ≤ 2 * 32 * 32 := Nat.mul_le_mul (by omega) hn
    omega
theorem prAll_row (p : Nat → Nat → Bool) {n i j : Nat} (h : i + 1 + j = n) : prAll p n i ++ prRow p i j = prAll p n (i + 1) := by
  show _ = prAll p n i ++ prRow p i (n - (i + 1)); rw [show n - (i + 1) = j by omega]
end Go.Proofs.Ytibldgcfplpdkaa
