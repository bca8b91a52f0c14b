/- Cells: the places of a key, on both sides. -/
import Derived.Test.YtfbapbgiegploaaCis3
namespace Go.Proofs.Ytfbapbgiegploaa
open Go.ChangeShapes Go.WideShapes Go.ChangeAt Go.RowKit
set_option linter.unusedVariables false
theorem wrapN {n : Nat} (h : n ≤ 4611686018427387904) : IntKind.i64.wrap (n : Int) = (n : Int) := by rw [IntKind.wrap_i64]; omega
theorem wrap_mulN {i m : Nat} (hi : i ≤ 64) (hm : m ≤ 64) : IntKind.i64.wrap ((i : Int) * (m : Int)) = ((i * m : Nat) : Int) := by
  have : i * m ≤ 64 * 64 := Nat.mul_le_mul hi hm
  rw [← Int.natCast_mul, wrapN (by omega)]
theorem wrap_addN {a b : Nat} (ha : a ≤ 1000000) (hb : b ≤ 1000000) : IntKind.i64.wrap ((a : Int) + (b : Int)) = ((a + b : Nat) : Int) := by
  rw [← Int.natCast_add, wrapN (by omega)]
theorem wrap_salt {S : Int} {i : Nat} (h : keyB S = true) (hi : i ≤ 1000000) : IntKind.i64.wrap (S + (i : Int)) = S + (i : Int) := by
  have := keyB_yes h
  rw [IntKind.wrap_i64]; omega
theorem tmod_salt {S : Int} {i : Nat} (h : keyB S = true) : (S + (i : Int)).tmod 4294967296 = saltZ S i := by
  have := keyB_yes h
  unfold saltZ
  rw [Int.tmod_eq_emod_of_nonneg (by omega)]
theorem c_impl_hashBelow_v (key salt : Int) (n y : Nat) (w : World) (hk : keyB key = true) (hs : keyB salt = true) (hn : n ≤ 4294967296) (hy : belowN key salt n = y) : Calls Try.prog 145 #[.int .i64 key, .int .i64 salt, .int .i64 n] w fun e w' => e = .returned (.int .i64 (y : Nat)) ∧ w' = w := by
  subst hy; exact (c_impl_hashBelow key salt n w hk hs hn).mono (by rintro e w' ⟨rfl, rfl⟩; exact ⟨rfl, rfl⟩)
theorem c_spec_l02Below_v (key salt : Int) (n y : Nat) (w : World) (hk : keyB key = true) (hs : keyB salt = true) (hn : n ≤ 4294967296) (hy : belowN key salt n = y) : Calls Try.prog 245 #[.int .i64 key, .int .i64 salt, .int .i64 n] w fun e w' => e = .returned (.int .i64 (y : Nat)) ∧ w' = w := by
  subst hy; exact (c_spec_l02Below key salt n w hk hs hn).mono (by rintro e w' ⟨rfl, rfl⟩; exact ⟨rfl, rfl⟩)
theorem c_impl_saltAfter_v (S : Int) (i : Nat) (z : Int) (w : World) (hs : keyB S = true) (hi : i ≤ 1000000) (hz : saltZ S i = z) : Calls Try.prog 148 #[.int .i64 S, .int .i64 i] w fun e w' => e = .returned (.int .i64 z) ∧ w' = w := by
  obtain ⟨s0, s1⟩ := keyB_yes hs
  have hi' : (i : Int) ≤ 1000000 := by omega
  have HZ := Lib.hid hz
  clear hs hz
  go_enter Try.func148, Try.ntmps148
  go_wp2
  go_ret
  exact ⟨by rw [← HZ.out]; rfl, rfl⟩
set_option maxHeartbeats 1000000 in
theorem c_impl_placeIn (m : Nat) (D S key : Int) (a : Option Addr) (n cap i : Nat) (w : World) (h1 : 1 ≤ m) (h2 : m ≤ 64) (hi : i ≤ 6) (hs : keyB S = true) (hk : keyB key = true) :
    Calls Try.prog 277 #[.agg #[.int .i64 m, .int .i64 D, .int .i64 S, .slice a n cap], .int .i64 key, .int .i64 i] w fun e w' => e = .returned (.int .i64 (placeN m S key i : Nat)) ∧ Ext w w' := by
  have HS := Lib.hid hs
  have HK := Lib.hid hk
  obtain ⟨z, hz⟩ : ∃ z, saltZ S i = z := ⟨_, rfl⟩
  obtain ⟨y, hy⟩ : ∃ y, belowN key z m = y := ⟨_, rfl⟩
  have hyl : y < m := by rw [← hy]; exact belowN_lt key z m h1
  have HZ := Lib.hid hz
  have HY := Lib.hid hy
  have HZK := Lib.hid (show keyB z = true by rw [← hz]; exact saltZ_key S i)
  have HP := Lib.hid (show placeN m S key i = i * m + y by unfold placeN; rw [hz, hy])
  have f1 := wrap_mulN (i := i) (m := m) (by omega) h2
  have hpl : i * m ≤ 6 * 64 := Nat.mul_le_mul hi h2
  obtain ⟨p, hp⟩ : ∃ p, i * m = p := ⟨_, rfl⟩
  have HPP := Lib.hid hp
  rw [hp] at f1 hpl
  have f2 := wrap_addN (a := p) (b := y) (by omega) (by omega)
  clear hs hk hz hy hp
  go_enter Try.func277, Try.ntmps277
  go_wp2
  go_quiet (first | (go_at_call 148; exact Calls.quiet_of_same (c_impl_saltAfter_v S i z _ HS.out (by omega) HZ.out)) | (go_at_call 145; exact Calls.quiet_of_same (c_impl_hashBelow_v key z m y _ HK.out HZK.out (by omega) HY.out)))
  go_wp2
  go_ret
  exact ⟨by rw [HP.out, HPP.out]; rfl, ((Ext.refl _).stepA _).stepN _⟩
set_option maxHeartbeats 1000000 in
theorem c_spec_l03Place (b m : Nat) (D S key : Int) (a : Option Addr) (n cap i : Nat) (w : World) (h1 : 1 ≤ m) (h2 : m ≤ 64) (hi : i ≤ 6) (hs : keyB S = true) (hk : keyB key = true)
    (hb : Box w b 57 #[.int .i64 m, .int .i64 D, .int .i64 S, .slice a n cap]) :
    Calls Try.prog 175 #[.pointer (some ⟨b, 0, none⟩), .int .i64 key, .int .i64 i] w fun e w' => e = .returned (.int .i64 (placeN m S key i : Nat)) ∧ ∃ q, w' = w.drewN q := by
  obtain ⟨b0, b1, b2, b3⟩ := hb.four
  have HS := Lib.hid hs
  have HK := Lib.hid hk
  obtain ⟨z, hz⟩ : ∃ z, saltZ S i = z := ⟨_, rfl⟩
  obtain ⟨y, hy⟩ : ∃ y, belowN key z m = y := ⟨_, rfl⟩
  have hyl : y < m := by rw [← hy]; exact belowN_lt key z m h1
  have HY := Lib.hid hy
  have HZK := Lib.hid (show keyB z = true by rw [← hz]; exact saltZ_key S i)
  have HP := Lib.hid (show placeN m S key i = i * m + y by unfold placeN; rw [hz, hy])
  have f1 := wrap_mulN (i := i) (m := m) (by omega) h2
  have hpl : i * m ≤ 6 * 64 := Nat.mul_le_mul hi h2
  obtain ⟨p, hp⟩ : ∃ p, i * m = p := ⟨_, rfl⟩
  have HPP := Lib.hid hp
  rw [hp] at f1 hpl
  have f2 := wrap_addN (a := p) (b := y) (by omega) (by omega)
  have f3 := wrap_salt (i := i) hs (by omega)
  have f4 : (S + (i : Int)).tmod 4294967296 = z := by rw [← hz]; exact tmod_salt hs
  clear hs hk hz hy hp hb
  go_enter Try.func175, Try.ntmps175
  go_wp2
  go_quiet ((go_at_call 245; exact Calls.quiet_of_same (c_spec_l02Below_v key z m y _ HK.out HZK.out (by omega) HY.out)))
  go_wp2
  go_ret
  exact ⟨by rw [HP.out, HPP.out]; rfl, _, rfl⟩
end Go.Proofs.Ytfbapbgiegploaa
