/- Cells: the places of a key, on both sides. -/
import Derived.Test.YtmgkbgdbahijnacCis3
namespace Go.Proofs.Ytmgkbgdbahijnac
open Go.ChangeShapes Go.WideShapes Go.ChangeAt Go.RowKit
set_option linter.unusedVariables false
theorem wrapN {n : Nat} (h : n ≤ 4611686018427387904) : IntKind.i64.wrap (n : Int) = (n : Int) := by rw [IntKind.wrap_i64]; omega
theorem wrap_mulN {i m : Nat} (hi : i ≤ 64) (hm : m ≤ 64) : IntKind.i64.wrap ((i : Int) * (m : Int)) = ((i * m : Nat) : Int) := by
  have : i * m ≤ 64 * 64 := Nat.mul_le_mul hi hm
  rw [← Int.natCast_mul, wrapN (by omega)]
theorem wrap_addN {a b : Nat} (ha : a ≤ 1000000) (hb : b ≤ 1000000) : IntKind.i64.wrap ((a : Int) + (b : Int)) = ((a + b : Nat) : Int) := by
  rw [← Int.natCast_add, wrapN (by omega)]
theorem wrap_salt {S : Int} {i : Nat} (h : keyB S = true) (hi : i ≤ 1000000) : IntKind.i64.wrap (S + (i : Int)) = S + (i : Int) := by
  have := keyB_yes h
  rw [IntKind.wrap_i64]; omega
theorem tmod_salt {S : Int} {i : Nat} (h : keyB S = true) : (S + (i : Int)).tmod 4294967296 = saltZ S i := by
  have := keyB_yes h
  unfold saltZ
  rw [Int.tmod_eq_emod_of_nonneg (by omega)]
theorem c_impl_hashBelow_v (key salt : Int) (n y : Nat) (w : World) (hk : keyB key = true) (hs : keyB salt = true) (hn : n ≤ 4294967296) (hy : belowN key salt n = y) : Calls Try.prog 128 #[.int .i64 key, .int .i64 salt, .int .i64 n] w fun e w' => e = .returned (.int .i64 (y : Nat)) ∧ w' = w := by
  subst hy; exact (c_impl_hashBelow key salt n w hk hs hn).mono (by rintro e w' ⟨rfl, rfl⟩; exact ⟨rfl, rfl⟩)
theorem c_spec_l02Below_v (key salt : Int) (n y : Nat) (w : World) (hk : keyB key = true) (hs : keyB salt = true) (hn : n ≤ 4294967296) (hy : belowN key salt n = y) : Calls Try.prog 126 #[.int .i64 key, .int .i64 salt, .int .i64 n] w fun e w' => e = .returned (.int .i64 (y : Nat)) ∧ w' = w := by
  subst hy; exact (c_spec_l02Below key salt n w hk hs hn).mono (by rintro e w' ⟨rfl, rfl⟩; exact ⟨rfl, rfl⟩)
theorem c_impl_saltAfter_v (S : Int) (i : Nat) (z : Int) (w : World) (hs : keyB S = true) (hi : i ≤ 1000000) (hz : saltZ S i = z) : Calls Try.prog 129 #[.int .i64 S, .int .i64 i] w fun e w' => e = .returned (.int .i64 z) ∧ w' = w := by
  obtain ⟨s0, s1⟩ := keyB_yes hs
  have hi' : (i : Int) ≤ 1000000 := by omega
  have HZ := Lib.hid hz
  clear hs hz
  go_enter Try.func129, Try.ntmps129
  go_wp2
  go_ret
  exact ⟨by rw [← HZ.out]; rfl, rfl⟩
end Go.Proofs.Ytmgkbgdbahijnac
