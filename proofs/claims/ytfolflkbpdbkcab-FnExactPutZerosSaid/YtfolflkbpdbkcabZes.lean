/- Runs of zeros; PutZeros: both sides. -/
import Derived.Test.YtfolflkbpdbkcabOwz
import Derived.Lib.BitFns
import Derived.Lib.Small
import Derived.Lib.Strings
import Derived.Lib.Slices
import Derived.Lib.Walk
namespace Go.Proofs.Ytfolflkbpdbkcab
open Go.ChangeShapes Go.WideShapes Go.ChangeAt Go.RowKit
set_option linter.unusedVariables false
theorem bitLen_exact (x k : Nat) (h1 : 2 ^ k ≤ x) (h2 : x < 2 ^ (k + 1)) (h3 : x < 2 ^ 64) : Lib.bitLen x = k + 1 := by
  rw [Lib.bitLen_shift k x h1 h3]
  have hp := Nat.two_pow_pos k
  have e : x / 2 ^ k = 1 := by
    rw [Nat.pow_succ] at h2
    have a : 1 ≤ x / 2 ^ k := (Nat.le_div_iff_mul_le hp).2 (by omega)
    have b : x / 2 ^ k < 2 := (Nat.div_lt_iff_lt_mul hp).2 (by omega)
    omega
  rw [e]
  have : Lib.bitLen 1 = 1 := by decide
  omega
/-- the run of a hash -/
def runZ (h : Nat) : Int := 32 - (Lib.bitLen h : Int)
theorem runZ_bd {h : Nat} (hh : h < 4294967296) : 0 ≤ runZ h ∧ runZ h ≤ 32 := by
  have l : Lib.bitLen h ≤ 32 := Lib.bitLen_le h 32 (by decide) hh
  unfold runZ; omega
set_option maxHeartbeats 4000000 in
set_option maxRecDepth 100000 in
theorem c_Len32 (x : Int) (w : World) (h0 : 0 ≤ x) (h1 : x ≤ 4294967295) :
    Calls Try.prog 111 #[.int .u32 x] w fun e w' => e = .returned (.int .i64 (Lib.bitLen x.toNat)) ∧ w = w' := by
  have t9 := Try.underlying9
  by_cases c1 : x < 65536
  · by_cases c2 : x < 256
    · have q1 : x ≤ 255 := by omega
      have hl := Lib.len8_of x h0 q1
      have hb := Lib.bitLen_le8' x h0 q1
      go_enter Try.func111, Try.ntmps111
      go_wp2
      go_ret
      exact ⟨rfl, rfl⟩
    · have c2' : 256 ≤ x := by omega
      have q0 : 0 ≤ x / 256 := by omega
      have q1 : x / 256 ≤ 255 := by omega
      have hl := Lib.len8_of (x / 256) q0 q1
      have hb := Lib.bitLen_le8' (x / 256) q0 q1
      have HS := Lib.hid (Lib.bitLen_shift8 x.toNat (by omega) (by omega))
      have HE := Lib.hid (show (x / 256).toNat = x.toNat / 256 by omega)
      clear c2
      go_enter Try.func111, Try.ntmps111
      go_wp2
      go_ret
      refine ⟨congrArg Ending.returned (congrArg (Value.int IntKind.i64) ?_), rfl⟩
      rw [HS.out, HE.out]; omega
  · have c1' : 65536 ≤ x := by omega
    by_cases c2 : x / 65536 < 256
    · have q0 : 0 ≤ x / 65536 := by omega
      have q1 : x / 65536 ≤ 255 := by omega
      have hl := Lib.len8_of (x / 65536) q0 q1
      have hb := Lib.bitLen_le8' (x / 65536) q0 q1
      have HS := Lib.hid (Lib.bitLen_shift16 x.toNat (by omega) (by omega))
      have HE := Lib.hid (show (x / 65536).toNat = x.toNat / 65536 by omega)
      clear c1
      go_enter Try.func111, Try.ntmps111
      go_wp2
      go_ret
      refine ⟨congrArg Ending.returned (congrArg (Value.int IntKind.i64) ?_), rfl⟩
      rw [HS.out, HE.out]; omega
    · have c2' : 256 ≤ x / 65536 := by omega
      have q0 : 0 ≤ x / 65536 / 256 := by omega
      have q1 : x / 65536 / 256 ≤ 255 := by omega
      have hl := Lib.len8_of (x / 65536 / 256) q0 q1
      have hb := Lib.bitLen_le8' (x / 65536 / 256) q0 q1
      have HS := Lib.hid (Lib.bitLen_shift24 x.toNat (by omega) (by omega))
      have HE := Lib.hid (show (x / 65536 / 256).toNat = x.toNat / 16777216 by omega)
      clear c1 c2
      go_enter Try.func111, Try.ntmps111
      go_wp2
      go_ret
      refine ⟨congrArg Ending.returned (congrArg (Value.int IntKind.i64) ?_), rfl⟩
      rw [HS.out, HE.out]; omega
theorem c_LeadingZeros32 (x : Nat) (w : World) (h1 : x < 4294967296) :
    Calls Try.prog 101 #[.int .u32 x] w fun e w' => e = .returned (.int .i64 (32 - (Lib.bitLen x : Int))) ∧ w = w' := by
  have l : Lib.bitLen x ≤ 32 := Lib.bitLen_le x 32 (by decide) h1
  go_enter Try.func101, Try.ntmps101
  go_wp2_with (go_at_call 111; refine (c_Len32 _ _ (by omega) (by omega)).mono ?_; rintro e w' ⟨rfl, rfl⟩)
  go_ret
  exact ⟨rfl, rfl⟩
theorem c_impl_ZerosOf_h (y : Nat) (z : Int) (w : World) (h2 : y < 4294967296) (hz : runZ y = z) : Calls Try.prog 90 #[.int .i64 y] w fun e w' => e = .returned (.tuple #[.int .i64 z, .bool true]) ∧ w = w' := by
  have HK := Lib.hid (keyB_true (k := (y : Int)) (by omega) (by omega))
  have HV := Lib.hid hz
  clear hz
  go_enter Try.func90, Try.ntmps90
  go_wp2_with (first | (go_at_call 69; refine (c_impl_IsKey_q _ _ HK.out).mono ?_; rintro e w' ⟨rfl, rfl⟩) | (go_at_call 101; refine (c_LeadingZeros32 y _ h2).mono ?_; rintro e w' ⟨rfl, rfl⟩))
  go_ret2
  exact ⟨by rw [← HV.out]; rfl, rfl⟩
theorem zero_div (x k : Nat) (hk : k < 32) : x / 2 ^ (31 - k) = 0 ↔ x < 2 ^ (31 - k) := by
  rw [Nat.div_eq_zero_iff]
  have := Nat.two_pow_pos (31 - k)
  omega
theorem c_spec_l02Zeros (x : Nat) (w : World) (h : x < 4294967296) :
    Calls Try.prog 86 #[.int .i64 x] w fun e w' => e = .returned (.int .i64 (32 - (Lib.bitLen x : Int))) ∧ w = w' := by
  go_enter Try.func86, Try.ntmps86
  go_wp2
  go_loop [3] (fun i => ∃ k : Nat, k ≤ 32 ∧ i = .int .i64 k ∧ x < 2 ^ (32 - k)) (fun i => 32 - (intOf i).toNat)
  case atStart => exact ⟨0, by omega, rfl, h⟩
  case round =>
    obtain ⟨k, hk, rfl, hx⟩ := hrel
    have HX := Lib.hid hx
    clear hx
    by_cases hlt : k < 32
    · by_cases hz : x < 2 ^ (31 - k)
      · have hs : (x : Int) / 2 ^ (31 - k) = 0 := by
          have := (zero_div x k hlt).2 hz
          have e : ((x / 2 ^ (31 - k) : Nat) : Int) = 0 := by rw [this]; rfl
          rw [Int.natCast_ediv, Int.natCast_pow] at e
          exact e
        have HZ := Lib.hid (show x < 2 ^ (32 - (k + 1)) by rw [show 32 - (k + 1) = 31 - k by omega]; exact hz)
        have hd : (31 - (k : Int)).toNat = 31 - k := by omega
        have hmn : min (31 - k) 64 = 31 - k := by omega
        clear hz
        go_wp2
        go_round
        case rel => exact ⟨k + 1, by omega, by go_num, HZ.out⟩
        case measure => simp [intOf]; omega
      · have hs : ¬ (x : Int) / 2 ^ (31 - k) = 0 := by
          have := mt (zero_div x k hlt).1 hz
          intro e
          apply this
          have e' : ((x / 2 ^ (31 - k) : Nat) : Int) = 0 := by rw [Int.natCast_ediv, Int.natCast_pow]; exact e
          omega
        have HB := Lib.hid (bitLen_exact x (31 - k) (by omega) (by rw [show 31 - k + 1 = 32 - k by omega]; exact HX.out) (by have : (2:Nat)^64 = 18446744073709551616 := rfl; omega))
        have hd : (31 - (k : Int)).toNat = 31 - k := by omega
        have hmn : min (31 - k) 64 = 31 - k := by omega
        clear hz
        go_wp2
        go_ret
        exact ⟨by rw [HB.out]; exact congrArg Ending.returned (congrArg (Value.int IntKind.i64) (by omega)), rfl⟩
    · obtain rfl : k = 32 := by omega
      have HB := Lib.hid (show Lib.bitLen x = 0 by
        have : x = 0 := by have := HX.out; simp at this; exact this
        rw [this]; rfl)
      go_wp2
      go_ret
      exact ⟨by rw [HB.out]; rfl, rfl⟩
theorem c_spec_l02Zeros_v (x : Nat) (z : Int) (w : World) (h : x < 4294967296) (hz : runZ x = z) :
    Calls Try.prog 86 #[.int .i64 x] w fun e w' => e = .returned (.int .i64 z) ∧ w = w' := by
  subst hz; exact c_spec_l02Zeros x w h
/-- a key is put into zeros -/
def putZR (S : Int) (zs : List Int) (key : Int) : FV × Bool := if zerB S zs && keyB key then (⟨S, zs.set (belowN key S zs.length) (max (zs[belowN key S zs.length]?.getD 0) (1 + runZ (hashN key (saltZ S 1))))⟩, true) else (FV.no, false)
theorem putZR_1 {S key : Int} {zs : List Int} (h : zerB S zs = false) : putZR S zs key = (FV.no, false) := by unfold putZR; rw [h]; rfl
theorem putZR_2 {S key : Int} {zs : List Int} (h : keyB key = false) : putZR S zs key = (FV.no, false) := by unfold putZR; rw [h, Bool.and_false]; rfl
theorem putZR_y {S key : Int} {zs : List Int} (h : zerB S zs = true) (hk : keyB key = true) {p : Nat} {x r z : Int} (hp : belowN key S zs.length = p) (hx : zs[p]?.getD 0 = x) (hr : runZ (hashN key (saltZ S 1)) = r) (hz : max x (1 + r) = z) : putZR S zs key = (⟨S, zs.set p z⟩, true) := by
  unfold putZR; rw [h, hk, hp, hx, hr, hz]; rfl
theorem putZR_le {S key : Int} {zs rz : List Int} {rS : Int} {rb : Bool} (h : putZR S zs key = (⟨rS, rz⟩, rb)) : rz.length ≤ 1048576 := by
  unfold putZR at h
  split at h
  · rename_i hc
    simp only [Bool.and_eq_true] at hc
    have := zer_len hc.1
    simp only [Prod.mk.injEq, FV.mk.injEq] at h
    rw [← h.1.2, List.length_set]; omega
  · simp only [Prod.mk.injEq, FV.no, FV.mk.injEq] at h
    rw [← h.1.2]; exact Nat.zero_le _
theorem c_spec_l00Max_w (x y z : Int) (w : World) (h : max x y = z) : Calls Try.prog 85 #[.int .i64 x, .int .i64 y] w fun e w' => e = .returned (.int .i64 z) ∧ w = w' := by
  by_cases hxy : y < x
  · have H := Lib.hid (show x = z by omega)
    clear h
    go_enter Try.func85, Try.ntmps85
    go_wp2
    go_ret
    exact ⟨by rw [H.out]; rfl, rfl⟩
  · have H := Lib.hid (show y = z by omega)
    clear h
    go_enter Try.func85, Try.ntmps85
    go_wp2
    go_ret
    exact ⟨by rw [H.out]; rfl, rfl⟩
end Go.Proofs.Ytfolflkbpdbkcab
