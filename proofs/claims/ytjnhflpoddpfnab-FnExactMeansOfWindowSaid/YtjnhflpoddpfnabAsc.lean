/- Lists of finite floats in ascending order: what the program answers (cmp.Less, slices.IsSorted, areAscending); sums of integers. -/
import Derived.Test.YtjnhflpoddpfnabFar
import Derived.Test.YtjnhflpoddpfnabAll
namespace Go.Proofs.Ytjnhflpoddpfnab
open Go.ChangeShapes Go.WideShapes Go.ChangeAt Go.RowKit Go.Proofs.Ytjnhflpoddpfnab.Flo
set_option linter.unusedVariables false
def getN (zs : List Nat) (i : Nat) : Nat := zs[i]?.getD 0
theorem getN_eq (zs : List Nat) (i : Nat) : zs[i]?.getD 0 = getN zs i := rfl
def AscF (ys : List Nat) : Prop := ∀ i j, i ≤ j → j < ys.length → fkey (getN ys i) ≤ fkey (getN ys j)
theorem getN_fin {zs : List Nat} (h : finB zs = true) {i : Nat} (hi : i < zs.length) : isFin .f32 (getN zs i) = true := finB_at h hi
/-- whether a number is not less than the one before -/
def upAt (zs : List Nat) (i : Nat) : Bool := decide (i = 0 ∨ fkey (getN zs (i - 1)) ≤ fkey (getN zs i))
def ascB (zs : List Nat) : Bool := allTo zs.length (upAt zs)
theorem ascB_asc {zs : List Nat} (h : ascB zs = true) : AscF zs := by
  intro i j hij hj
  induction j with
  | zero => obtain rfl : i = 0 := by omega
            exact Int.le_refl _
  | succ j ih =>
    by_cases e : i = j + 1
    · subst e; exact Int.le_refl _
    · have h1 := ih (by omega) (by omega)
      have h2 := of_decide_eq_true (allTo_at h hj)
      rcases h2 with h2 | h2
      · omega
      · exact Int.le_trans h1 h2
theorem fin_notNaN {x : Nat} (h : isFin .f32 x = true) : (FloatKind.f32.decode x).isNaN = false := by
  obtain ⟨s, m, e, he⟩ := isFin_number h
  rw [he]; rfl
end Go.Proofs.Ytjnhflpoddpfnab
