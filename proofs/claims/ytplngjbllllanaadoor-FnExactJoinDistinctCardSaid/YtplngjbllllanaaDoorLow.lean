/- LowZerosOf: what both sides answer; the law's walk, where the table lies. -/
import Derived.Test.YtplngjbllllanaaDoorHas
import Derived.Lib.TrailingZeros
import Derived.WalkLawsBesides
namespace Go.Proofs.YtplngjbllllanaaDoor
open Go.ChangeShapes Go.WideShapes Go.ChangeAt Go.RowKit
set_option linter.unusedVariables false
def TabW (w : World) : Prop := ∀ j, j < 32 → w.cell? ⟨0, j, none⟩ = some (.int .u8 ((Lib.deBruijn32tab.getD j 0 : Nat) : Int))
theorem low_key (x a : Nat) (hx : x < 4294967296) (hx0 : x ≠ 0) (hlow : x &&& (4294967296 - x) = a) :
    bits BinOp.and IntKind.u32 (x : Int) (-(x : Int) % 4294967296) * 125613361 % 4294967296 / 134217728 = ((a * 125613361 % 4294967296 / 134217728 : Nat) : Int) := by
  have e1 : -(x : Int) % 4294967296 = ((4294967296 - x : Nat) : Int) := by omega
  rw [e1, u32_and_nat x _ hx (by omega), hlow]
  omega
theorem bits_and_one (y : Nat) (h : y < 9223372036854775808) : bits .and .i64 (y : Int) 1 = ((y % 2 : Nat) : Int) := by
  have h1 : (BitVec.ofInt 64 (y : Int)).toNat = y := by
    rw [BitVec.ofInt_natCast, BitVec.toNat_ofNat]; exact Nat.mod_eq_of_lt (by omega)
  have h2 : (BitVec.ofInt 64 (1 : Int)).toNat = 1 := by decide
  show IntKind.i64.wrap ((BitVec.ofInt 64 (y : Int) &&& BitVec.ofInt 64 (1 : Int)).toNat : Int) = _
  rw [BitVec.toNat_and, h1, h2, Nat.and_one_is_mod, IntKind.wrap_i64]
  omega
def lowV (x : Int) : Int := if keyB x then ((Lib.ctz 32 x.toNat : Nat) : Int) else 0
theorem lowV_no {x : Int} (h : keyB x = false) : lowV x = 0 := by unfold lowV; rw [h]; rfl
theorem lowV_yes {x : Nat} (h : keyB (x : Int) = true) : lowV x = ((Lib.ctz 32 x : Nat) : Int) := by unfold lowV; rw [h, if_pos rfl]; simp
theorem div_mod_two (x k : Nat) (h : x % 2 ^ k = 0) : (x / 2 ^ k % 2 = 0 → x % 2 ^ (k + 1) = 0) := by
  intro h2
  have hp := Nat.two_pow_pos k
  have e := Nat.div_add_mod x (2 ^ k)
  rw [h, Nat.add_zero] at e
  have e2 := Nat.div_add_mod (x / 2 ^ k) 2
  rw [h2, Nat.add_zero] at e2
  rw [← e, ← e2, Nat.pow_succ, ← Nat.mul_assoc, Nat.mul_mod_right]
theorem ctz_eq (x k : Nat) (hx : x < 2 ^ 32) (h : x % 2 ^ k = 0) (h2 : ¬ x / 2 ^ k % 2 = 0) : Lib.ctz 32 x = k := by
  have h0 : x ≠ 0 := by intro e; subst e; simp at h2
  obtain ⟨m, hm, hc⟩ := Lib.ctzFrom_spec 32 x (by omega) hx
  have hcz : Lib.ctz 32 x = Lib.ctzFrom 32 x := by unfold Lib.ctz; rw [if_neg h0]
  rw [hcz]
  obtain ⟨c, hcc⟩ : ∃ c, Lib.ctzFrom 32 x = c := ⟨_, rfl⟩
  rw [hcc] at hm ⊢
  rcases Nat.lt_trichotomy c k with hl | hl | hl
  · exfalso
    obtain ⟨d, rfl⟩ : ∃ d, k = c + (d + 1) := ⟨k - c - 1, by omega⟩
    have hp := Nat.two_pow_pos c
    rw [hm, Nat.pow_add, Nat.mul_mod_mul_left] at h
    have h3 : (2 * m + 1) % 2 ^ (d + 1) = 0 := by
      rcases Nat.mul_eq_zero.1 h with e | e
      · omega
      · exact e
    have h4 : (2 * m + 1) % 2 = 0 := by
      have : (2 * m + 1) % 2 ^ (d + 1) % 2 = (2 * m + 1) % 2 := Nat.mod_mod_of_dvd _ ⟨2 ^ d, by rw [Nat.pow_succ, Nat.mul_comm]⟩
      rw [← this, h3]
    omega
  · exact hl
  · exfalso
    obtain ⟨d, rfl⟩ : ∃ d, c = k + (d + 1) := ⟨c - k - 1, by omega⟩
    have hp := Nat.two_pow_pos k
    rw [hm, Nat.pow_add, Nat.mul_assoc, Nat.mul_div_cancel_left _ hp, Nat.pow_succ, Nat.mul_comm (2 ^ d) 2, Nat.mul_assoc, Nat.mul_mod_right] at h2
    exact h2 rfl
theorem ctz_none (x : Nat) (hx : x < 2 ^ 32) (h : x % 2 ^ 32 = 0) : Lib.ctz 32 x = 32 := by
  have : x = 0 := by rw [Nat.mod_eq_of_lt hx] at h; exact h
  subst this
  rfl
set_option maxHeartbeats 1000000 in
theorem c_TZ32 (x : Nat) (w : World) (hx : x < 4294967296) (hT : TabW w) :
    Calls Tryd.prog 44 #[.int .u32 x] w fun e w' => e = .returned (.int .i64 (Lib.ctz 32 x : Nat)) ∧ w = w' := by
  by_cases h0 : x = 0
  · subst h0
    go_enter Tryd.func44, Tryd.ntmps44
    go_wp2
    go_ret
    exact ⟨rfl, rfl⟩
  · obtain ⟨hlow, hk⟩ := Lib.lowest_bit 32 x h0 hx
    obtain ⟨hi, htab⟩ := Lib.deBruijn32_at _ hk
    have hcell := hT _ hi
    rw [htab] at hcell
    have key := low_key x _ hx h0 hlow
    obtain ⟨k, hkk⟩ : ∃ k, Lib.ctz 32 x = k := ⟨_, rfl⟩
    obtain ⟨idx, hidx⟩ : ∃ idx, 2 ^ Lib.ctz 32 x * 125613361 % 4294967296 / 134217728 = idx := ⟨_, rfl⟩
    rw [hidx] at key hcell hi
    rw [hkk] at hcell hk ⊢
    have hx0 : ((x : Int) == 0) = false := by simp; omega
    have HT := Lib.hid hT
    clear hlow htab hkk hidx hT h0
    go_enter Tryd.func44, Tryd.ntmps44
    go_wp2_with (simp only [key])
    go_ret
    exact ⟨rfl, rfl⟩
theorem c_impl_IsKey_eq (k : Int) (w : World) {b : Bool} (h : keyB k = b) : Calls Tryd.prog 19 #[.int .i64 k] w fun e w' => e = .returned (.bool b) ∧ w = w' := by
  subst h; exact c_impl_IsKey k w
theorem c_spec_l02Key_eq (k : Int) (w : World) {b : Bool} (h : keyB k = b) : Calls Tryd.prog 15 #[.int .i64 k] w fun e w' => e = .returned (.bool b) ∧ w = w' := by
  subst h; exact c_spec_l02Key k w
theorem c_impl_LowZerosOf (x : Int) (w : World) (hT : TabW w) : Calls Tryd.prog 33 #[.int .i64 x] w fun e w' => e = .returned (.tuple #[.int .i64 (lowV x), .bool (keyB x)]) ∧ w = w' := by
  have HT := Lib.hid hT
  clear hT
  cases hk : keyB x
  · have HK := Lib.hid hk
    have HV := Lib.hid (lowV_no hk)
    clear hk
    go_enter Tryd.func33, Tryd.ntmps33
    go_wp2_with (go_at_call 19; refine (c_impl_IsKey_eq x _ HK.out).mono ?_; rintro e w' ⟨rfl, rfl⟩)
    go_ret2
    exact ⟨by rw [HV.out]; rfl, rfl⟩
  · obtain ⟨h0, h1⟩ := keyB_yes hk
    obtain ⟨y, rfl⟩ := Int.eq_ofNat_of_zero_le h0
    have HK := Lib.hid hk
    have HV := Lib.hid (lowV_yes hk)
    have h2 : y < 4294967296 := by omega
    clear hk
    go_enter Tryd.func33, Tryd.ntmps33
    go_wp2_with fail
    refine (c_impl_IsKey_eq _ _ HK.out).mono ?_; rintro e w' ⟨rfl, rfl⟩
    go_wp2_with fail
    refine (c_TZ32 y _ h2 HT.out).mono ?_; rintro e w' ⟨rfl, rfl⟩
    go_wp2
    go_ret2
    exact ⟨by rw [HV.out]; rfl, rfl⟩
set_option maxHeartbeats 1000000 in
theorem c_spec_LowZerosOf (x : Int) (w : World) : Calls Tryd.prog 37 #[.int .i64 x] w fun e w' => e = .returned (.tuple #[.int .i64 (lowV x), .bool (keyB x)]) ∧ w = w' := by
  cases hk : keyB x
  · have HK := Lib.hid hk
    have HV := Lib.hid (lowV_no hk)
    clear hk
    go_enter Tryd.func37, Tryd.ntmps37
    go_wp2_with (go_at_call 15; refine (c_spec_l02Key_eq x _ HK.out).mono ?_; rintro e w' ⟨rfl, rfl⟩)
    go_ret2
    exact ⟨by rw [HV.out]; rfl, rfl⟩
  · obtain ⟨h0, h1⟩ := keyB_yes hk
    obtain ⟨y, rfl⟩ := Int.eq_ofNat_of_zero_le h0
    have HK := Lib.hid hk
    have HV := Lib.hid (lowV_yes hk)
    have HY := Lib.hid (show y < 2 ^ 32 by omega)
    have h2 : y < 4294967296 := by omega
    clear hk
    go_enter Tryd.func37, Tryd.ntmps37
    go_wp2_with fail
    refine (c_spec_l02Key_eq _ _ HK.out).mono ?_; rintro e w' ⟨rfl, rfl⟩
    go_wp2
    go_loop [4] (fun i => ∃ k : Nat, k ≤ 32 ∧ i = .int .i64 k ∧ y % 2 ^ k = 0) (fun i => 32 - (intOf i).toNat)
    case atStart => exact ⟨0, by omega, rfl, by simp [Nat.mod_one]⟩
    case round =>
      obtain ⟨k, hk, rfl, hd⟩ := hrel
      have HD := Lib.hid hd
      clear hd
      by_cases hlt : k < 32
      · have hmn : min k 64 = k := by omega
        have hlt' : (k : Int) < 32 := by omega
        obtain ⟨z, hz⟩ : ∃ z, y / 2 ^ k = z := ⟨_, rfl⟩
        have hzi : (y : Int) / 2 ^ k = (z : Int) := by rw [← hz, Int.natCast_ediv, Int.natCast_pow]; rfl
        have hzl : z < 9223372036854775808 := by have := Nat.div_le_self y (2 ^ k); omega
        have hba := bits_and_one z hzl
        by_cases h2 : z % 2 = 0
        · have HN := Lib.hid (div_mod_two y k HD.out (by rw [hz]; exact h2))
          rw [h2] at hba
          clear hz hlt h2
          go_wp2
          go_round
          case rel => exact ⟨k + 1, by omega, by go_num, HN.out⟩
          case measure => simp [intOf]; omega
        · have HN := Lib.hid (ctz_eq y k HY.out HD.out (by rw [hz]; exact h2))
          have h2' : z % 2 = 1 := by omega
          rw [h2'] at hba
          clear hz hlt h2
          go_wp2
          go_ret2
          exact ⟨by rw [HV.out, HN.out]; rfl, rfl⟩
      · obtain rfl : k = 32 := by omega
        have HN := Lib.hid (ctz_none y HY.out HD.out)
        go_wp2
        go_ret2
        exact ⟨by rw [HV.out, HN.out]; rfl, rfl⟩
end Go.Proofs.YtplngjbllllanaaDoor
