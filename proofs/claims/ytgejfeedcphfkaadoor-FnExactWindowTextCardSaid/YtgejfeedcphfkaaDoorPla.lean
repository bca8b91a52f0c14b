/- Cells: the places of a key, on both sides. -/
import Derived.Test.YtgejfeedcphfkaaDoorCis3
namespace Go.Proofs.YtgejfeedcphfkaaDoor
open Go.ChangeShapes Go.WideShapes Go.ChangeAt Go.RowKit
set_option linter.unusedVariables false
theorem wrapN {n : Nat} (h : n ≤ 4611686018427387904) : IntKind.i64.wrap (n : Int) = (n : Int) := by rw [IntKind.wrap_i64]; omega
theorem wrap_mulN {i m : Nat} (hi : i ≤ 64) (hm : m ≤ 64) : IntKind.i64.wrap ((i : Int) * (m : Int)) = ((i * m : Nat) : Int) := by
  have : i * m ≤ 64 * 64 := Nat.mul_le_mul hi hm
  rw [← Int.natCast_mul, wrapN (by omega)]
theorem wrap_addN {a b : Nat} (ha : a ≤ 1000000) (hb : b ≤ 1000000) : IntKind.i64.wrap ((a : Int) + (b : Int)) = ((a + b : Nat) : Int) := by
  rw [← Int.natCast_add, wrapN (by omega)]
theorem wrap_salt {S : Int} {i : Nat} (h : keyB S = true) (hi : i ≤ 1000000) : IntKind.i64.wrap (S + (i : Int)) = S + (i : Int) := by
  have := keyB_yes h
  rw [IntKind.wrap_i64]; omega
theorem tmod_salt {S : Int} {i : Nat} (h : keyB S = true) : (S + (i : Int)).tmod 4294967296 = saltZ S i := by
  have := keyB_yes h
  unfold saltZ
  rw [Int.tmod_eq_emod_of_nonneg (by omega)]
end Go.Proofs.YtgejfeedcphfkaaDoor
