/- Finite 32-bit floats as whole numbers of units: their order. No program. -/
import Derived.Test.YtfbapbgiegploaaFlo
namespace Go.Proofs.Ytfbapbgiegploaa.Flo
open Go Go.RowKit
set_option linter.unusedVariables false
/-- a finite 32-bit float, in units of 2 ^ -149 -/
def fkey (b : Nat) : Int := match FloatKind.f32.decode b with
  | .number s m e => Ieee.signed s m (e + 149).toNat
  | _ => 0
theorem signed_mul (s : Bool) (m u k : Nat) : Ieee.signed s m (u + k) = Ieee.signed s m u * ((2 ^ k : Nat) : Int) := by
  unfold Ieee.signed
  rw [Nat.shiftLeft_eq, Nat.shiftLeft_eq, Nat.pow_add, ← Nat.mul_assoc]
  cases s
  · simp
  · simp [Int.neg_mul]
theorem compare_scale (a b : Int) (k : Nat) : compare (a * ((2 ^ k : Nat) : Int)) (b * ((2 ^ k : Nat) : Int)) = compare a b := by
  have hp : (0 : Int) < ((2 ^ k : Nat) : Int) := by have := Nat.two_pow_pos k; omega
  generalize ((2 ^ k : Nat) : Int) = p at hp
  show compareOfLessAndEq _ _ = compareOfLessAndEq _ _
  unfold compareOfLessAndEq
  by_cases h : a < b
  · rw [if_pos h, if_pos (Int.mul_lt_mul_of_pos_right h hp)]
  · have h2 : ¬ a * p < b * p := by have := Int.mul_le_mul_of_nonneg_right (Int.not_lt.1 h) (Int.le_of_lt hp); omega
    rw [if_neg h, if_neg h2]
    by_cases e : a = b
    · rw [if_pos e, if_pos (by rw [e])]
    · have h3 : b < a := by omega
      have h4 := Int.mul_lt_mul_of_pos_right h3 hp
      rw [if_neg e, if_neg (by omega)]
theorem isFin_number {b : Nat} (h : isFin .f32 b = true) : ∃ s m e, FloatKind.f32.decode b = .number s m e := by
  unfold isFin at h
  split at h
  · exact ⟨_, _, _, (by assumption)⟩
  · cases h
theorem order_key {x y : Nat} (hx : isFin .f32 x = true) (hy : isFin .f32 y = true) : FloatKind.f32.format.order x y = some (compare (fkey x) (fkey y)) := by
  obtain ⟨s, m, i, h1⟩ := isFin_number hx
  obtain ⟨t, n, j, h2⟩ := isFin_number hy
  obtain ⟨_, i1, _, _⟩ := decode32_number h1
  obtain ⟨_, j1, _, _⟩ := decode32_number h2
  have e1 : FloatKind.f32.format.order x y = (FloatKind.f32.decode x).order (FloatKind.f32.decode y) := rfl
  rw [e1]
  unfold fkey
  rw [h1, h2]
  show some (compare (Ieee.signed s m (i - min i j).toNat) (Ieee.signed t n (j - min i j).toNat)) = some (compare (Ieee.signed s m (i + 149).toNat) (Ieee.signed t n (j + 149).toNat))
  have e2 : (i + 149).toNat = (i - min i j).toNat + (min i j + 149).toNat := by omega
  have e3 : (j + 149).toNat = (j - min i j).toNat + (min i j + 149).toNat := by omega
  rw [e2, e3, signed_mul, signed_mul, compare_scale]
theorem key_lt {x y : Nat} (hx : isFin .f32 x = true) (hy : isFin .f32 y = true) : (FloatKind.f32.format.order x y == some .lt) = decide (fkey x < fkey y) := by
  rw [order_key hx hy]
  show (some (compareOfLessAndEq _ _) == _) = _
  unfold compareOfLessAndEq
  by_cases h : fkey x < fkey y
  · rw [if_pos h, decide_eq_true h]; rfl
  · rw [if_neg h, decide_eq_false h]
    split <;> rfl
theorem key_gt {x y : Nat} (hx : isFin .f32 x = true) (hy : isFin .f32 y = true) : (FloatKind.f32.format.order x y == some .gt) = decide (fkey y < fkey x) := by
  rw [order_key hx hy]
  show (some (compareOfLessAndEq _ _) == _) = _
  unfold compareOfLessAndEq
  by_cases h : fkey x < fkey y
  · rw [if_pos h, decide_eq_false (by omega)]; rfl
  · rw [if_neg h]
    by_cases e : fkey x = fkey y
    · rw [if_pos e, decide_eq_false (by omega)]; rfl
    · rw [if_neg e, decide_eq_true (by omega)]; rfl
theorem key_eq {x y : Nat} (hx : isFin .f32 x = true) (hy : isFin .f32 y = true) : (FloatKind.f32.format.order x y == some .eq) = decide (fkey x = fkey y) := by
  rw [order_key hx hy]
  show (some (compareOfLessAndEq _ _) == _) = _
  unfold compareOfLessAndEq
  by_cases h : fkey x < fkey y
  · rw [if_pos h, decide_eq_false (by omega)]; rfl
  · rw [if_neg h]
    by_cases e : fkey x = fkey y
    · rw [if_pos e, decide_eq_true e]; rfl
    · rw [if_neg e, decide_eq_false e]; rfl
/-- all floats of a list are finite -/
def finB (zs : List Nat) : Bool := zs.all (isFin .f32)
theorem finB_at {zs : List Nat} (h : finB zs = true) {i : Nat} (hi : i < zs.length) : isFin .f32 (zs[i]?.getD 0) = true := by
  unfold finB at h
  rw [List.all_eq_true] at h
  rw [List.getElem?_eq_getElem hi]
  exact h _ (List.getElem_mem hi)
theorem finB_mk {zs : List Nat} (h : ∀ i, i < zs.length → isFin .f32 (zs[i]?.getD 0) = true) : finB zs = true := by
  unfold finB
  rw [List.all_eq_true]
  intro x hx
  obtain ⟨i, hi, rfl⟩ := List.getElem_of_mem hx
  have := h i hi
  rw [List.getElem?_eq_getElem hi] at this
  exact this
theorem finB_bad {zs : List Nat} {i : Nat} (hi : i < zs.length) {x : Nat} (hx : zs[i]?.getD 0 = x) (h : isFin .f32 x = false) : finB zs = false := by
  cases hb : finB zs
  · rfl
  · have := finB_at hb hi
    rw [hx, h] at this; cases this
end Go.Proofs.Ytfbapbgiegploaa.Flo
