/- HashOf, SignOf, BelowHash: what both sides answer; the walks of the laws IsKey, MixHash, HashOf, SignOf, BelowHash. -/
import Derived.Test.YtfbapbgiegploaaHas
import Derived.WalkLawsBesides
namespace Go.Proofs.Ytfbapbgiegploaa
open Go.ChangeShapes Go.WideShapes Go.ChangeAt Go.RowKit
set_option linter.unusedVariables false

def hashV (key salt : Int) : Int := if keyB key && keyB salt then (hashN key salt : Nat) else 0
theorem hashV_yes {key salt : Int} (hk : keyB key = true) (hs : keyB salt = true) : hashV key salt = (hashN key salt : Nat) := by unfold hashV; rw [hk, hs]; rfl
theorem hashV_no {key salt : Int} (h : (keyB key && keyB salt) = false) : hashV key salt = 0 := by unfold hashV; rw [h]; rfl
theorem both_yes {key salt : Int} (h : (keyB key && keyB salt) = true) : keyB key = true ∧ keyB salt = true := by simpa using h
theorem hashV_bd (key salt : Int) : 0 ≤ hashV key salt ∧ hashV key salt < 4294967296 := by
  have := hashN_lt key salt
  unfold hashV
  split <;> omega
def signV (key salt : Int) : Int := if keyB key && keyB salt then (if hashN key salt < 2147483648 then 1 else -1) else 0
def belowB (key salt n : Int) : Bool := keyB key && keyB salt && decide (1 ≤ n ∧ n ≤ 4294967296)
def belowN (key salt : Int) (n : Nat) : Nat := hashN key salt * n / 4294967296
def belowV (key salt n : Int) : Int := if belowB key salt n then (belowN key salt n.toNat : Nat) else 0
theorem belowN_lt (key salt : Int) (n : Nat) (h : 1 ≤ n) : belowN key salt n < n := by
  have := hashN_lt key salt
  unfold belowN
  rw [Nat.div_lt_iff_lt_mul (by decide), Nat.mul_comm n]
  exact Nat.mul_lt_mul_of_pos_right this (by omega)
theorem below_prod (key salt : Int) (n : Nat) (h : n ≤ 4294967296) : hashN key salt * n < 18446744073709551616 := by
  have h1 := hashN_lt key salt
  have h2 : hashN key salt * n ≤ 4294967295 * 4294967296 := Nat.mul_le_mul (by omega) h
  omega
/-- the product as the walk shows it -/
theorem below_wrap (key salt : Int) (n : Nat) (h : n ≤ 4294967296) : IntKind.u64.wrap (((hashN key salt : Nat) : Int) * (n : Int)) / 4294967296 = ((belowN key salt n : Nat) : Int) := by
  have := below_prod key salt n h
  rw [IntKind.wrap_u64, ← Int.natCast_mul]
  unfold belowN
  omega
theorem below_plain (key salt : Int) (n : Nat) : (((hashN key salt : Nat) : Int) * (n : Int)) / 4294967296 = ((belowN key salt n : Nat) : Int) := by
  rw [← Int.natCast_mul]
  unfold belowN
  omega
theorem c_impl_IsKey_of (k : Int) (w : World) {b : Bool} (h : keyB k = b) : Calls Try.prog 126 #[.int .i64 k] w fun e w' => e = .returned (.bool b) ∧ w = w' := by
  subst h; exact c_impl_IsKey k w
theorem c_impl_HashOf (key salt : Int) (w : World) : Calls Try.prog 278 #[.int .i64 key, .int .i64 salt] w fun e w' => e = .returned (.tuple #[.int .i64 (hashV key salt), .bool (keyB key && keyB salt)]) ∧ w = w' := by
  cases hk : keyB key
  · have HK := Lib.hid hk
    have HV := Lib.hid (hashV_no (key := key) (salt := salt) (by rw [hk]; rfl))
    clear hk
    go_enter Try.func278, Try.ntmps278
    go_wp2_with (go_at_call 126; refine (c_impl_IsKey_of key _ HK.out).mono ?_; rintro e w' ⟨rfl, rfl⟩)
    go_ret2
    exact ⟨by rw [HV.out]; rfl, rfl⟩
  · cases hs : keyB salt
    · have HK := Lib.hid hk
      have HS := Lib.hid hs
      have HV := Lib.hid (hashV_no (key := key) (salt := salt) (by rw [hk, hs]; rfl))
      clear hk hs
      go_enter Try.func278, Try.ntmps278
      go_wp2_with fail
      refine (c_impl_IsKey_of key _ HK.out).mono ?_; rintro e w' ⟨rfl, rfl⟩
      go_wp2_with fail
      refine (c_impl_IsKey_of salt _ HS.out).mono ?_; rintro e w' ⟨rfl, rfl⟩
      go_wp2
      go_ret2
      exact ⟨by rw [HV.out]; rfl, rfl⟩
    · have HK := Lib.hid hk
      have HS := Lib.hid hs
      have HV := Lib.hid (hashV_yes hk hs)
      clear hk hs
      go_enter Try.func278, Try.ntmps278
      go_wp2_with fail
      refine (c_impl_IsKey_of key _ HK.out).mono ?_; rintro e w' ⟨rfl, rfl⟩
      go_wp2_with fail
      refine (c_impl_IsKey_of salt _ HS.out).mono ?_; rintro e w' ⟨rfl, rfl⟩
      go_wp2_with fail
      refine (c_impl_hashKey key salt _ HK.out HS.out).mono ?_; rintro e w' ⟨rfl, rfl⟩
      go_wp2
      go_ret2
      exact ⟨by rw [HV.out]; rfl, rfl⟩
theorem signV_no {key salt : Int} (h : (keyB key && keyB salt) = false) : signV key salt = 0 := by unfold signV; rw [h]; rfl
theorem signV_low {key salt : Int} (h : (keyB key && keyB salt) = true) (hl : hashN key salt < 2147483648) : signV key salt = 1 := by unfold signV; rw [h, if_pos rfl, if_pos hl]
theorem signV_high {key salt : Int} (h : (keyB key && keyB salt) = true) (hl : ¬ hashN key salt < 2147483648) : signV key salt = -1 := by unfold signV; rw [h, if_pos rfl, if_neg hl]
theorem c_impl_HashOf_of (key salt : Int) (w : World) {b : Bool} {v : Int} (h : (keyB key && keyB salt) = b) (hv : hashV key salt = v) : Calls Try.prog 278 #[.int .i64 key, .int .i64 salt] w fun e w' => e = .returned (.tuple #[.int .i64 v, .bool b]) ∧ w = w' := by
  subst h; subst hv; exact c_impl_HashOf key salt w
theorem c_impl_SignOf (key salt : Int) (w : World) : Calls Try.prog 225 #[.int .i64 key, .int .i64 salt] w fun e w' => e = .returned (.tuple #[.int .i64 (signV key salt), .bool (keyB key && keyB salt)]) ∧ w = w' := by
  cases hb : keyB key && keyB salt
  · have HB := Lib.hid hb
    have HV := Lib.hid (signV_no hb)
    clear hb
    go_enter Try.func225, Try.ntmps225
    go_wp2_with (go_at_call 278; refine (c_impl_HashOf_of key salt _ HB.out (hashV_no HB.out)).mono ?_; rintro e w' ⟨rfl, rfl⟩)
    go_ret2
    exact ⟨by rw [HV.out]; rfl, rfl⟩
  · have HB := Lib.hid hb
    have HK := Lib.hid (both_yes hb)
    obtain ⟨v, hv⟩ : ∃ v : Int, ((hashN key salt : Nat) : Int) = v := ⟨_, rfl⟩
    have HW := Lib.hid ((hashV_yes HK.out.1 HK.out.2).trans hv)
    by_cases hl : hashN key salt < 2147483648
    · have HV := Lib.hid (signV_low hb hl)
      have hl' : v < 2147483648 := by omega
      clear hb hl hv
      go_enter Try.func225, Try.ntmps225
      go_wp2_with (go_at_call 278; refine (c_impl_HashOf_of key salt _ HB.out HW.out).mono ?_; rintro e w' ⟨rfl, rfl⟩)
      go_ret2
      exact ⟨by rw [HV.out]; rfl, rfl⟩
    · have HV := Lib.hid (signV_high hb hl)
      have hl' : ¬ v < 2147483648 := by omega
      clear hb hl hv
      go_enter Try.func225, Try.ntmps225
      go_wp2_with (go_at_call 278; refine (c_impl_HashOf_of key salt _ HB.out HW.out).mono ?_; rintro e w' ⟨rfl, rfl⟩)
      go_ret2
      exact ⟨by rw [HV.out]; rfl, rfl⟩
theorem belowV_no {key salt n : Int} (h : belowB key salt n = false) : belowV key salt n = 0 := by unfold belowV; rw [h]; rfl
theorem belowV_yes {key salt : Int} {n : Nat} (h : belowB key salt n = true) : belowV key salt n = (belowN key salt n : Nat) := by unfold belowV; rw [h, if_pos rfl]; simp
theorem belowB_yes {key salt n : Int} (h : belowB key salt n = true) : keyB key = true ∧ keyB salt = true ∧ 1 ≤ n ∧ n ≤ 4294967296 := by
  unfold belowB at h
  simp only [Bool.and_eq_true, decide_eq_true_eq] at h
  exact ⟨h.1.1, h.1.2, h.2⟩
theorem belowB_mk {key salt n : Int} (hk : keyB key = true) (hs : keyB salt = true) (h1 : 1 ≤ n) (h2 : n ≤ 4294967296) : belowB key salt n = true := by
  unfold belowB; rw [hk, hs, decide_eq_true ⟨h1, h2⟩]; rfl
theorem belowB_1 {key salt n : Int} (h : keyB key = false) : belowB key salt n = false := by unfold belowB; rw [h]; rfl
theorem belowB_2 {key salt n : Int} (h : keyB salt = false) : belowB key salt n = false := by unfold belowB; rw [h]; simp
theorem belowB_3 {key salt n : Int} (h : ¬ (1 ≤ n ∧ n ≤ 4294967296)) : belowB key salt n = false := by unfold belowB; rw [decide_eq_false h]; simp
theorem c_impl_hashBelow (key salt : Int) (n : Nat) (w : World) (hk : keyB key = true) (hs : keyB salt = true) (hn : n ≤ 4294967296) : Calls Try.prog 145 #[.int .i64 key, .int .i64 salt, .int .i64 n] w fun e w' => e = .returned (.int .i64 (belowN key salt n : Nat)) ∧ w = w' := by
  have HK := Lib.hid hk
  have HS := Lib.hid hs
  have hh := hashN_lt key salt
  have hp := below_wrap key salt n hn
  have hb : ((belowN key salt n : Nat) : Int) < 4294967296 := by
    have := below_prod key salt n hn
    unfold belowN; omega
  have hn' : (n : Int) ≤ 4294967296 := by omega
  clear hk hs hn
  go_enter Try.func145, Try.ntmps145
  go_wp2_with (go_at_call 147; refine (c_impl_hashKey key salt _ HK.out HS.out).mono ?_; rintro e w' ⟨rfl, rfl⟩)
  go_ret
  exact ⟨rfl, rfl⟩
theorem c_spec_l02Below (key salt : Int) (n : Nat) (w : World) (hk : keyB key = true) (hs : keyB salt = true) (hn : n ≤ 4294967296) : Calls Try.prog 245 #[.int .i64 key, .int .i64 salt, .int .i64 n] w fun e w' => e = .returned (.int .i64 (belowN key salt n : Nat)) ∧ w = w' := by
  have HK := Lib.hid hk
  have HS := Lib.hid hs
  have hh := hashN_lt key salt
  have hp := below_wrap key salt n hn
  have hb : ((belowN key salt n : Nat) : Int) < 4294967296 := by
    have := below_prod key salt n hn
    unfold belowN; omega
  have hn' : (n : Int) ≤ 4294967296 := by omega
  clear hk hs hn
  go_enter Try.func245, Try.ntmps245
  go_wp2_with (go_at_call 291; refine (c_spec_l02Hash key salt _ HK.out HS.out).mono ?_; rintro e w' ⟨rfl, rfl⟩)
  go_ret
  exact ⟨rfl, rfl⟩
end Go.Proofs.Ytfbapbgiegploaa
