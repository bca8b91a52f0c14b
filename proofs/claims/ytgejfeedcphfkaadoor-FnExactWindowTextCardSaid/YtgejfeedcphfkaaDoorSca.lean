/- HashOf, SignOf, BelowHash: what both sides answer; the walks of the laws IsKey, MixHash, HashOf, SignOf, BelowHash. -/
import Derived.Test.YtgejfeedcphfkaaDoorHas
import Derived.WalkLawsBesides
namespace Go.Proofs.YtgejfeedcphfkaaDoor
open Go.ChangeShapes Go.WideShapes Go.ChangeAt Go.RowKit
set_option linter.unusedVariables false

def hashV (key salt : Int) : Int := if keyB key && keyB salt then (hashN key salt : Nat) else 0
theorem hashV_yes {key salt : Int} (hk : keyB key = true) (hs : keyB salt = true) : hashV key salt = (hashN key salt : Nat) := by unfold hashV; rw [hk, hs]; rfl
theorem hashV_no {key salt : Int} (h : (keyB key && keyB salt) = false) : hashV key salt = 0 := by unfold hashV; rw [h]; rfl
theorem both_yes {key salt : Int} (h : (keyB key && keyB salt) = true) : keyB key = true ∧ keyB salt = true := by simpa using h
theorem hashV_bd (key salt : Int) : 0 ≤ hashV key salt ∧ hashV key salt < 4294967296 := by
  have := hashN_lt key salt
  unfold hashV
  split <;> omega
def signV (key salt : Int) : Int := if keyB key && keyB salt then (if hashN key salt < 2147483648 then 1 else -1) else 0
def belowB (key salt n : Int) : Bool := keyB key && keyB salt && decide (1 ≤ n ∧ n ≤ 4294967296)
def belowN (key salt : Int) (n : Nat) : Nat := hashN key salt * n / 4294967296
def belowV (key salt n : Int) : Int := if belowB key salt n then (belowN key salt n.toNat : Nat) else 0
theorem belowN_lt (key salt : Int) (n : Nat) (h : 1 ≤ n) : belowN key salt n < n := by
  have := hashN_lt key salt
  unfold belowN
  rw [Nat.div_lt_iff_lt_mul (by decide), Nat.mul_comm n]
  exact Nat.mul_lt_mul_of_pos_right this (by omega)
theorem below_prod (key salt : Int) (n : Nat) (h : n ≤ 4294967296) : hashN key salt * n < 18446744073709551616 := by
  have h1 := hashN_lt key salt
  have h2 : hashN key salt * n ≤ 4294967295 * 4294967296 := Nat.mul_le_mul (by omega) h
  omega
/-- the product as the walk shows it -/
theorem below_wrap (key salt : Int) (n : Nat) (h : n ≤ 4294967296) : IntKind.u64.wrap (((hashN key salt : Nat) : Int) * (n : Int)) / 4294967296 = ((belowN key salt n : Nat) : Int) := by
  have := below_prod key salt n h
  rw [IntKind.wrap_u64, ← Int.natCast_mul]
  unfold belowN
  omega
theorem below_plain (key salt : Int) (n : Nat) : (((hashN key salt : Nat) : Int) * (n : Int)) / 4294967296 = ((belowN key salt n : Nat) : Int) := by
  rw [← Int.natCast_mul]
  unfold belowN
  omega
theorem belowV_no {key salt n : Int} (h : belowB key salt n = false) : belowV key salt n = 0 := by unfold belowV; rw [h]; rfl
theorem belowV_yes {key salt : Int} {n : Nat} (h : belowB key salt n = true) : belowV key salt n = (belowN key salt n : Nat) := by unfold belowV; rw [h, if_pos rfl]; simp
theorem belowB_yes {key salt n : Int} (h : belowB key salt n = true) : keyB key = true ∧ keyB salt = true ∧ 1 ≤ n ∧ n ≤ 4294967296 := by
  unfold belowB at h
  simp only [Bool.and_eq_true, decide_eq_true_eq] at h
  exact ⟨h.1.1, h.1.2, h.2⟩
theorem belowB_mk {key salt n : Int} (hk : keyB key = true) (hs : keyB salt = true) (h1 : 1 ≤ n) (h2 : n ≤ 4294967296) : belowB key salt n = true := by
  unfold belowB; rw [hk, hs, decide_eq_true ⟨h1, h2⟩]; rfl
theorem belowB_1 {key salt n : Int} (h : keyB key = false) : belowB key salt n = false := by unfold belowB; rw [h]; rfl
theorem belowB_2 {key salt n : Int} (h : keyB salt = false) : belowB key salt n = false := by unfold belowB; rw [h]; simp
theorem belowB_3 {key salt n : Int} (h : ¬ (1 ≤ n ∧ n ≤ 4294967296)) : belowB key salt n = false := by unfold belowB; rw [decide_eq_false h]; simp
end Go.Proofs.YtgejfeedcphfkaaDoor
