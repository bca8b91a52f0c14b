/- All of the first places; sums; elements of lists by their places; prefixes of slices. No program. -/
import Derived.Test.YtfbapbgiegploaaOwn
namespace Go.Proofs.Ytfbapbgiegploaa
open Go Go.RowKit
set_option linter.unusedVariables false
/-- all of the first n places -/
def allTo (n : Nat) (p : Nat → Bool) : Bool := (List.range n).all p
theorem allTo_yes {n : Nat} {p : Nat → Bool} (h : ∀ i, i < n → p i = true) : allTo n p = true := by
  unfold allTo; rw [List.all_eq_true]; intro i hi; exact h i (List.mem_range.1 hi)
theorem allTo_no {n : Nat} {p : Nat → Bool} {i : Nat} (hi : i < n) (h : p i = false) : allTo n p = false := by
  unfold allTo; rw [List.all_eq_false]; exact ⟨i, List.mem_range.2 hi, by rw [h]; decide⟩
theorem allTo_at {n : Nat} {p : Nat → Bool} (h : allTo n p = true) {i : Nat} (hi : i < n) : p i = true := by
  unfold allTo at h; rw [List.all_eq_true] at h; exact h i (List.mem_range.2 hi)
theorem allTo_congr {n : Nat} {p q : Nat → Bool} (h : ∀ i, i < n → p i = q i) : allTo n p = allTo n q := by
  cases hq : allTo n q
  · cases hp : allTo n p
    · rfl
    · rw [← hq]; exact (allTo_yes fun i hi => by rw [← h i hi]; exact allTo_at hp hi).symm
  · exact allTo_yes fun i hi => by rw [h i hi]; exact allTo_at hq hi
theorem allTo_and (n : Nat) (p q : Nat → Bool) : allTo n (fun i => p i && q i) = (allTo n p && allTo n q) := by
  cases h : allTo n (fun i => p i && q i)
  · cases h1 : allTo n p
    · rfl
    · cases h2 : allTo n q
      · rfl
      · rw [← h]; exact allTo_yes fun i hi => by rw [allTo_at h1 hi, allTo_at h2 hi]; rfl
  · have h1 : ∀ i, i < n → p i = true ∧ q i = true := fun i hi => by have := allTo_at h hi; simpa using this
    rw [allTo_yes fun i hi => (h1 i hi).1, allTo_yes fun i hi => (h1 i hi).2]; rfl
def getI (zs : List Int) (i : Nat) : Int := zs[i]?.getD 0
theorem getI_eq (zs : List Int) (i : Nat) : zs[i]?.getD 0 = getI zs i := rfl
theorem getI_take {zs : List Int} {i j : Nat} (h : j < i) : getI (zs.take i) j = getI zs j := by unfold getI; rw [List.getElem?_take, if_pos h]
theorem Reads.take {w : World} {a : Option Addr} {n i : Nat} {zs : List Int} (h : Reads w a n (ints zs)) (hi : i ≤ n) : Reads w a i (ints (zs.take i)) := by
  obtain ⟨hz, hr⟩ := h.int
  refine ⟨by rw [ints_length, List.length_take]; omega, ?_⟩
  rcases hr with h0 | ⟨b, off, rfl, hc⟩
  · exact .inl (by omega)
  · refine .inr ⟨b, off, rfl, fun j hj => ?_⟩
    rw [hc j (by omega), ints_get _ j (by rw [List.length_take]; omega), List.getElem?_take, if_pos hj]
/-- the sum of the first n -/
def sumTo (f : Nat → Int) : Nat → Int
  | 0 => 0
  | n + 1 => sumTo f n + f n
theorem sumTo_succ (f : Nat → Int) (n : Nat) : sumTo f (n + 1) = sumTo f n + f n := rfl
theorem sumTo_bd {f : Nat → Int} : ∀ {n : Nat}, (∀ i, i < n → -1000000000000 ≤ f i ∧ f i ≤ 1000000000000) → -(n : Int) * 1000000000000 ≤ sumTo f n ∧ sumTo f n ≤ (n : Int) * 1000000000000
  | 0, _ => by simp [sumTo]
  | n + 1, h => by
    have h1 := sumTo_bd (f := f) (n := n) (fun i hi => h i (by omega))
    have h2 := h n (Nat.lt_succ_self n)
    rw [sumTo_succ]
    omega
theorem sumTo_pos {f : Nat → Int} : ∀ {n : Nat}, (∀ i, i < n → 0 ≤ f i) → 0 ≤ sumTo f n ∧ ∀ i, i < n → f i ≤ sumTo f n
  | 0, _ => ⟨Int.le_refl _, fun i hi => by omega⟩
  | n + 1, h => by
    have ih := sumTo_pos (f := f) (n := n) (fun i hi => h i (by omega))
    have hn := h n (Nat.lt_succ_self n)
    rw [sumTo_succ]
    refine ⟨by omega, fun i hi => ?_⟩
    by_cases e : i = n
    · subst e; omega
    · have := ih.2 i (by omega); omega
theorem sumTo_mono {f : Nat → Int} {n m : Nat} (h : ∀ i, i < m → 0 ≤ f i) (hnm : n ≤ m) : sumTo f n ≤ sumTo f m := by
  induction m with
  | zero => obtain rfl : n = 0 := by omega
            exact Int.le_refl _
  | succ m ih =>
    by_cases e : n = m + 1
    · subst e; exact Int.le_refl _
    · have := ih (fun i hi => h i (by omega)) (by omega)
      have := h m (Nat.lt_succ_self m)
      rw [sumTo_succ]; omega
theorem sumTo_congr {f g : Nat → Int} : ∀ {n : Nat}, (∀ i, i < n → f i = g i) → sumTo f n = sumTo g n
  | 0, _ => rfl
  | n + 1, h => by rw [sumTo_succ, sumTo_succ, sumTo_congr (fun i hi => h i (by omega)), h n (Nat.lt_succ_self n)]
end Go.Proofs.Ytfbapbgiegploaa
