/- ZerosOf: what both sides answer; the law's walk. -/
import Derived.Test.YtdbllnmhlfkhbaaHas
import Derived.Test.YtdbllnmhlfkhbaaSca
import Derived.Lib.BitFns
import Derived.Lib.Small
import Derived.Lib.Strings
import Derived.Lib.Slices
import Derived.Lib.Walk
import Derived.WalkLawsBesides
namespace Go.Proofs.Ytdbllnmhlfkhbaa
open Go.ChangeShapes Go.WideShapes Go.ChangeAt Go.RowKit
set_option linter.unusedVariables false
theorem bitLen_exact (x k : Nat) (h1 : 2 ^ k ≤ x) (h2 : x < 2 ^ (k + 1)) (h3 : x < 2 ^ 64) : Lib.bitLen x = k + 1 := by
  rw [Lib.bitLen_shift k x h1 h3]
  have hp := Nat.two_pow_pos k
  have e : x / 2 ^ k = 1 := by
    rw [Nat.pow_succ] at h2
    have a : 1 ≤ x / 2 ^ k := (Nat.le_div_iff_mul_le hp).2 (by omega)
    have b : x / 2 ^ k < 2 := (Nat.div_lt_iff_lt_mul hp).2 (by omega)
    omega
  rw [e]
  have : Lib.bitLen 1 = 1 := by decide
  omega
def zerosV (x : Int) : Int := if keyB x then 32 - (Lib.bitLen x.toNat : Int) else 0
theorem zerosV_no {x : Int} (h : keyB x = false) : zerosV x = 0 := by unfold zerosV; rw [h]; rfl
theorem zerosV_yes {x : Nat} (h : keyB (x : Int) = true) : zerosV x = 32 - (Lib.bitLen x : Int) := by unfold zerosV; rw [h, if_pos rfl]; simp
set_option maxHeartbeats 4000000 in
set_option maxRecDepth 100000 in
theorem c_Len32 (x : Int) (w : World) (h0 : 0 ≤ x) (h1 : x ≤ 4294967295) :
    Calls Try.prog 59 #[.int .u32 x] w fun e w' => e = .returned (.int .i64 (Lib.bitLen x.toNat)) ∧ w = w' := by
  have t9 := Try.underlying9
  by_cases c1 : x < 65536
  · by_cases c2 : x < 256
    · have q1 : x ≤ 255 := by omega
      have hl := Lib.len8_of x h0 q1
      have hb := Lib.bitLen_le8' x h0 q1
      go_enter Try.func59, Try.ntmps59
      go_wp2
      go_ret
      exact ⟨rfl, rfl⟩
    · have c2' : 256 ≤ x := by omega
      have q0 : 0 ≤ x / 256 := by omega
      have q1 : x / 256 ≤ 255 := by omega
      have hl := Lib.len8_of (x / 256) q0 q1
      have hb := Lib.bitLen_le8' (x / 256) q0 q1
      have HS := Lib.hid (Lib.bitLen_shift8 x.toNat (by omega) (by omega))
      have HE := Lib.hid (show (x / 256).toNat = x.toNat / 256 by omega)
      clear c2
      go_enter Try.func59, Try.ntmps59
      go_wp2
      go_ret
      refine ⟨congrArg Ending.returned (congrArg (Value.int IntKind.i64) ?_), rfl⟩
      rw [HS.out, HE.out]; omega
  · have c1' : 65536 ≤ x := by omega
    by_cases c2 : x / 65536 < 256
    · have q0 : 0 ≤ x / 65536 := by omega
      have q1 : x / 65536 ≤ 255 := by omega
      have hl := Lib.len8_of (x / 65536) q0 q1
      have hb := Lib.bitLen_le8' (x / 65536) q0 q1
      have HS := Lib.hid (Lib.bitLen_shift16 x.toNat (by omega) (by omega))
      have HE := Lib.hid (show (x / 65536).toNat = x.toNat / 65536 by omega)
      clear c1
      go_enter Try.func59, Try.ntmps59
      go_wp2
      go_ret
      refine ⟨congrArg Ending.returned (congrArg (Value.int IntKind.i64) ?_), rfl⟩
      rw [HS.out, HE.out]; omega
    · have c2' : 256 ≤ x / 65536 := by omega
      have q0 : 0 ≤ x / 65536 / 256 := by omega
      have q1 : x / 65536 / 256 ≤ 255 := by omega
      have hl := Lib.len8_of (x / 65536 / 256) q0 q1
      have hb := Lib.bitLen_le8' (x / 65536 / 256) q0 q1
      have HS := Lib.hid (Lib.bitLen_shift24 x.toNat (by omega) (by omega))
      have HE := Lib.hid (show (x / 65536 / 256).toNat = x.toNat / 16777216 by omega)
      clear c1 c2
      go_enter Try.func59, Try.ntmps59
      go_wp2
      go_ret
      refine ⟨congrArg Ending.returned (congrArg (Value.int IntKind.i64) ?_), rfl⟩
      rw [HS.out, HE.out]; omega
theorem c_LeadingZeros32 (x : Nat) (w : World) (h1 : x < 4294967296) :
    Calls Try.prog 55 #[.int .u32 x] w fun e w' => e = .returned (.int .i64 (32 - (Lib.bitLen x : Int))) ∧ w = w' := by
  have l : Lib.bitLen x ≤ 32 := Lib.bitLen_le x 32 (by decide) h1
  go_enter Try.func55, Try.ntmps55
  go_wp2_with (go_at_call 59; refine (c_Len32 _ _ (by omega) (by omega)).mono ?_; rintro e w' ⟨rfl, rfl⟩)
  go_ret
  exact ⟨rfl, rfl⟩
theorem c_impl_ZerosOf (x : Int) (w : World) : Calls Try.prog 34 #[.int .i64 x] w fun e w' => e = .returned (.tuple #[.int .i64 (zerosV x), .bool (keyB x)]) ∧ w = w' := by
  cases hk : keyB x
  · have HK := Lib.hid hk
    have HV := Lib.hid (zerosV_no hk)
    clear hk
    go_enter Try.func34, Try.ntmps34
    go_wp2_with (go_at_call 15; refine (c_impl_IsKey_of x _ HK.out).mono ?_; rintro e w' ⟨rfl, rfl⟩)
    go_ret2
    exact ⟨by rw [HV.out]; rfl, rfl⟩
  · obtain ⟨h0, h1⟩ := keyB_yes hk
    obtain ⟨y, rfl⟩ := Int.eq_ofNat_of_zero_le h0
    have HK := Lib.hid hk
    have HV := Lib.hid (zerosV_yes hk)
    have h2 : y < 4294967296 := by omega
    clear hk
    go_enter Try.func34, Try.ntmps34
    go_wp2_with (first | (go_at_call 15; refine (c_impl_IsKey_of _ _ HK.out).mono ?_; rintro e w' ⟨rfl, rfl⟩) | (go_at_call 55; refine (c_LeadingZeros32 y _ h2).mono ?_; rintro e w' ⟨rfl, rfl⟩))
    go_ret2
    exact ⟨by rw [HV.out]; rfl, rfl⟩
theorem c_spec_l02Key_is (k : Int) (w : World) {b : Bool} (h : keyB k = b) : Calls Try.prog 44 #[.int .i64 k] w fun e w' => e = .returned (.bool b) ∧ w = w' := by
  subst h; exact c_spec_l02Key k w
theorem zero_div (x k : Nat) (hk : k < 32) : x / 2 ^ (31 - k) = 0 ↔ x < 2 ^ (31 - k) := by
  rw [Nat.div_eq_zero_iff]
  have := Nat.two_pow_pos (31 - k)
  omega
theorem c_spec_l02Zeros (x : Nat) (w : World) (h : x < 4294967296) :
    Calls Try.prog 54 #[.int .i64 x] w fun e w' => e = .returned (.int .i64 (32 - (Lib.bitLen x : Int))) ∧ w = w' := by
  go_enter Try.func54, Try.ntmps54
  go_wp2
  go_loop [3] (fun i => ∃ k : Nat, k ≤ 32 ∧ i = .int .i64 k ∧ x < 2 ^ (32 - k)) (fun i => 32 - (intOf i).toNat)
  case atStart => exact ⟨0, by omega, rfl, h⟩
  case round =>
    obtain ⟨k, hk, rfl, hx⟩ := hrel
    have HX := Lib.hid hx
    clear hx
    by_cases hlt : k < 32
    · by_cases hz : x < 2 ^ (31 - k)
      · have hs : (x : Int) / 2 ^ (31 - k) = 0 := by
          have := (zero_div x k hlt).2 hz
          have e : ((x / 2 ^ (31 - k) : Nat) : Int) = 0 := by rw [this]; rfl
          rw [Int.natCast_ediv, Int.natCast_pow] at e
          exact e
        have HZ := Lib.hid (show x < 2 ^ (32 - (k + 1)) by rw [show 32 - (k + 1) = 31 - k by omega]; exact hz)
        have hd : (31 - (k : Int)).toNat = 31 - k := by omega
        have hmn : min (31 - k) 64 = 31 - k := by omega
        clear hz
        go_wp2
        go_round
        case rel => exact ⟨k + 1, by omega, by go_num, HZ.out⟩
        case measure => simp [intOf]; omega
      · have hs : ¬ (x : Int) / 2 ^ (31 - k) = 0 := by
          have := mt (zero_div x k hlt).1 hz
          intro e
          apply this
          have e' : ((x / 2 ^ (31 - k) : Nat) : Int) = 0 := by rw [Int.natCast_ediv, Int.natCast_pow]; exact e
          omega
        have HB := Lib.hid (bitLen_exact x (31 - k) (by omega) (by rw [show 31 - k + 1 = 32 - k by omega]; exact HX.out) (by have : (2:Nat)^64 = 18446744073709551616 := rfl; omega))
        have hd : (31 - (k : Int)).toNat = 31 - k := by omega
        have hmn : min (31 - k) 64 = 31 - k := by omega
        clear hz
        go_wp2
        go_ret
        exact ⟨by rw [HB.out]; exact congrArg Ending.returned (congrArg (Value.int IntKind.i64) (by omega)), rfl⟩
    · obtain rfl : k = 32 := by omega
      have HB := Lib.hid (show Lib.bitLen x = 0 by
        have : x = 0 := by have := HX.out; simp at this; exact this
        rw [this]; rfl)
      go_wp2
      go_ret
      exact ⟨by rw [HB.out]; rfl, rfl⟩
theorem c_spec_ZerosOf (x : Int) (w : World) : Calls Try.prog 33 #[.int .i64 x] w fun e w' => e = .returned (.tuple #[.int .i64 (zerosV x), .bool (keyB x)]) ∧ w = w' := by
  cases hk : keyB x
  · have HK := Lib.hid hk
    have HV := Lib.hid (zerosV_no hk)
    clear hk
    go_enter Try.func33, Try.ntmps33
    go_wp2_with (go_at_call 44; refine (c_spec_l02Key_is x _ HK.out).mono ?_; rintro e w' ⟨rfl, rfl⟩)
    go_ret2
    exact ⟨by rw [HV.out]; rfl, rfl⟩
  · obtain ⟨h0, h1⟩ := keyB_yes hk
    obtain ⟨y, rfl⟩ := Int.eq_ofNat_of_zero_le h0
    have HK := Lib.hid hk
    have HV := Lib.hid (zerosV_yes hk)
    have h2 : y < 4294967296 := by omega
    clear hk
    go_enter Try.func33, Try.ntmps33
    go_wp2_with (first | (go_at_call 44; refine (c_spec_l02Key_is _ _ HK.out).mono ?_; rintro e w' ⟨rfl, rfl⟩) | (go_at_call 54; refine (c_spec_l02Zeros y _ h2).mono ?_; rintro e w' ⟨rfl, rfl⟩))
    go_ret2
    exact ⟨by rw [HV.out]; rfl, rfl⟩
theorem walk_FnExactZerosOf (a0 : Int) (w : World) (w0 : (Lit.int .i64 a0).wf = true) :
    Calls Try.prog 10 #[.int .i64 a0] w fun e w' => e = .returned (.bool true) ∧ Below w.heap.size w w' := by
  clear w0
  go_enter Try.func10, Try.ntmps10
  go_wp2_with (first | (go_at_call 33; refine (c_spec_ZerosOf _ _).mono ?_; rintro e w' ⟨rfl, rfl⟩) | (go_at_call 34; refine (c_impl_ZerosOf _ _).mono ?_; rintro e w' ⟨rfl, rfl⟩))
  go_ret
  exact ⟨rfl, Below.refl _ _⟩
end Go.Proofs.Ytdbllnmhlfkhbaa
