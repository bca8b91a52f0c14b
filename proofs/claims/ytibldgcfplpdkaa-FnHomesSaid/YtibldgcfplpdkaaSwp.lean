/- SwapPlace, BackPlace: what both sides answer. -/
import Derived.Test.YtibldgcfplpdkaaSca
import Derived.Test.YtibldgcfplpdkaaPer
import Derived.Test.YtibldgcfplpdkaaOwn
import Derived.Deep.QuietTactic
import Derived.BigQuiet
import Derived.Deep.RegionWith
import Derived.Deep.LoopGhost
namespace Go.Proofs.Ytibldgcfplpdkaa
open Go.ChangeShapes Go.WideShapes Go.ChangeAt Go.RowKit
set_option linter.unusedVariables false
theorem bits_xor_i64 (a b : Nat) (ha : a < 9223372036854775808) (hb : b < 9223372036854775808) : bits .xor .i64 (a : Int) (b : Int) = ((a ^^^ b : Nat) : Int) := by
  have hx : a ^^^ b < 2 ^ 63 := Nat.xor_lt_two_pow (by omega) (by omega)
  have h1 : (BitVec.ofInt 64 (a : Int)).toNat = a := by
    rw [BitVec.ofInt_natCast, BitVec.toNat_ofNat]; exact Nat.mod_eq_of_lt (by omega)
  have h2 : (BitVec.ofInt 64 (b : Int)).toNat = b := by
    rw [BitVec.ofInt_natCast, BitVec.toNat_ofNat]; exact Nat.mod_eq_of_lt (by omega)
  show IntKind.i64.wrap ((BitVec.ofInt 64 (a : Int) ^^^ BitVec.ofInt 64 (b : Int)).toNat : Int) = _
  rw [BitVec.toNat_xor, h1, h2, IntKind.wrap_i64]
  omega
theorem saltN_key (salt : Int) (i : Nat) : keyB (saltN salt i) = true := by unfold saltN; exact keyB_true (by omega) (by omega)
/-- a half of so many digits -/
structure Half (h size : Nat) : Prop where
  lo : 1 ≤ h
  hi : h ≤ 8
  pow : size = 2 ^ h
theorem Half.int {h size : Nat} (H : Half h size) : (2 : Int) ^ h = (size : Int) := by rw [H.pow, Int.natCast_pow]; rfl
theorem Half.le {h size : Nat} (H : Half h size) : size ≤ 256 := by
  rw [H.pow]
  exact Nat.le_trans (Nat.pow_le_pow_right (by decide) H.hi) (by decide)
theorem Half.ge {h size : Nat} (H : Half h size) : 2 ≤ size := by
  rw [H.pow]
  exact Nat.le_trans (by decide) (Nat.pow_le_pow_right (by decide) H.lo)
theorem wrap_small {n : Nat} (h : n ≤ 65536) : IntKind.i64.wrap (n : Int) = (n : Int) := by rw [IntKind.wrap_i64]; omega
theorem fN_lt (salt : Int) {h size : Nat} (H : Half h size) (i r : Nat) : fN salt size i r < size := Nat.mod_lt _ (by have := H.ge; omega)
theorem fN_int (salt : Int) (size i r : Nat) : ((hashN r (saltN salt i) : Nat) : Int) % (size : Int) = ((fN salt size i r : Nat) : Int) := by unfold fN; rw [Int.natCast_emod]
theorem xor_in {h size l f : Nat} (H : Half h size) (hl : l < size) (hf : f < size) : l ^^^ f < size := by
  rw [H.pow] at hl hf ⊢
  exact Nat.xor_lt_two_pow hl hf
def itL (salt : Int) (size : Nat) : Nat → Nat × Nat → Nat × Nat
  | 0, p => p
  | n + 1, p => rndL salt size n (itL salt size n p)
def itR (salt : Int) (size : Nat) : Nat → Nat × Nat → Nat × Nat
  | 0, p => p
  | n + 1, p => rndR salt size (3 - n) (itR salt size n p)
theorem swapN_it (salt : Int) (size k : Nat) : swapN salt size k = join2 size (itL salt size 4 (cut2 size k)) := rfl
theorem backN_it (salt : Int) (size k : Nat) : backN salt size k = join2 size (itR salt size 4 (cut2 size k)) := rfl
theorem join2_int (size l r : Nat) : ((l * size : Nat) : Int) + (r : Int) = ((join2 size (l, r) : Nat) : Int) := by
  show ((l * size : Nat) : Int) + (r : Int) = ((l * size + r : Nat) : Int)
  omega
theorem mul_small {l size : Nat} (hl : l < size) (hs : size ≤ 256) : l * size ≤ 65280 := by
  have : l * size ≤ 255 * 256 := Nat.mul_le_mul (by omega) hs
  omega
theorem c_impl_saltAfter (salt : Int) (i : Nat) (w : World) (hs : keyB salt = true) (hi : i ≤ 3) : Calls Try.prog 237 #[.int .i64 salt, .int .i64 i] w fun e w' => e = .returned (.int .i64 (saltN salt i)) ∧ w' = w := by
  obtain ⟨s0, s1⟩ := keyB_yes hs
  have hi' : (i : Int) ≤ 3 := by omega
  clear hs
  go_enter Try.func237, Try.ntmps237
  go_wp2
  go_ret
  exact ⟨rfl, rfl⟩
theorem c_impl_hashKey_at (key salt v : Int) (w : World) (hk : keyB key = true) (hs : keyB salt = true) (hv : ((hashN key salt : Nat) : Int) = v) : Calls Try.prog 101 #[.int .i64 key, .int .i64 salt] w fun e w' => e = .returned (.int .i64 v) ∧ w' = w := by
  subst hv; exact (c_impl_hashKey key salt w hk hs).mono (by rintro e w' ⟨rfl, rfl⟩; exact ⟨rfl, rfl⟩)
theorem c_impl_swapDigits (r i h size : Nat) (salt : Int) (w : World) (H : Half h size) (hr : r < size) (hs : keyB salt = true) (hi : i ≤ 3) :
    Calls Try.prog 210 #[.int .i64 r, .int .i64 salt, .int .i64 i, .int .i64 h] w fun e w' => e = .returned (.int .i64 (fN salt size i r : Nat)) ∧ ∃ q, w' = w.drewN q := by
  have hp := H.int
  have hle := H.le
  have hge := H.ge
  have hh8 := H.hi
  have hmn : min h 64 = h := by omega
  have hw := wrap_small (show size ≤ 65536 by omega)
  have HK := Lib.hid (show keyB (r : Int) = true from keyB_true (by omega) (by omega))
  have HS := Lib.hid hs
  obtain ⟨s, hsa⟩ : ∃ s, saltN salt i = s := ⟨_, rfl⟩
  have HSK := Lib.hid (show keyB s = true by rw [← hsa]; exact saltN_key salt i)
  have HSA := Lib.hid hsa
  obtain ⟨v, hv⟩ : ∃ v : Nat, hashN r s = v := ⟨_, rfl⟩
  have HV := Lib.hid (show ((hashN r s : Nat) : Int) = (v : Int) by rw [hv])
  have HF := Lib.hid (show ((v : Nat) : Int) % (size : Int) = ((fN salt size i r : Nat) : Int) by rw [← fN_int, hsa, hv])
  have hf0 : ¬ (size : Int) = 0 := by omega
  clear hs hsa hv H
  go_enter Try.func210, Try.ntmps210
  go_wp2
  go_quiet (first | (go_at_call_of 237 (Value.int .i64 salt); exact Calls.quiet_of_same ((c_impl_saltAfter salt i _ HS.out hi).mono (by rintro e w' ⟨rfl, rfl⟩; exact ⟨by rw [HSA.out], rfl⟩))) | (go_at_call_of 101 (Value.int .i64 s); exact Calls.quiet_of_same (c_impl_hashKey_at r s _ _ HK.out HSK.out HV.out)))
  go_wp2
  go_ret
  exact ⟨by rw [← HF.out]; rfl, _, rfl⟩
set_option maxHeartbeats 1000000 in
theorem c_impl_swapOnce (k h size : Nat) (salt : Int) (w : World) (H : Half h size) (hk : k < size * size) (hs : keyB salt = true) :
    Calls Try.prog 105 #[.int .i64 k, .int .i64 salt, .int .i64 h] w fun e w' => e = .returned (.int .i64 (swapN salt size k : Nat)) ∧ ∃ q, w' = w.drewN q := by
  have hp := H.int
  have hle := H.le
  have hge := H.ge
  have hh8 := H.hi
  have hmn : min h 64 = h := by omega
  have hw := wrap_small (show size ≤ 65536 by omega)
  have hf0 : ¬ (size : Int) = 0 := by omega
  have HH := Lib.hid H
  have HS := Lib.hid hs
  obtain ⟨c, hc⟩ : ∃ c, cut2 size k = c := ⟨_, rfl⟩
  have HC := Lib.hid (show inS size c by rw [← hc]; exact cut2_in (by omega) hk)
  have hc1 : (k : Int) / (size : Int) = (c.1 : Int) := by rw [← hc]; exact (Int.natCast_ediv k size).symm
  have hc2 : (k : Int) % (size : Int) = (c.2 : Int) := by rw [← hc]; exact (Int.natCast_emod k size).symm
  have HR := Lib.hid (show swapN salt size k = join2 size (itL salt size 4 c) by rw [swapN_it, hc])
  clear hs hc H hk
  go_enter Try.func105, Try.ntmps105
  go_wp2
  go_region
  all_goals
    go_wp2
    try simp only [hc2]
    go_loopw [7, 8, 17] (fun x y i wr => ∃ n l r q : Nat, n ≤ 4 ∧ i = .int .i64 (n : Nat) ∧ x = .int .i64 l ∧ y = .int .i64 r ∧ itL salt size n c = (l, r) ∧ l < size ∧ r < size ∧ wr = w.drewN q) (fun _ _ i _ => 4 - (intOf i).toNat)
    case atStart => exact ⟨0, c.1, c.2, _, by omega, rfl, by first | rfl | rw [hc1], by first | rfl | rw [hc2], rfl, HC.out.1, HC.out.2, rfl⟩
    case round =>
      obtain ⟨n, l, r, q, hn, rfl, rfl, rfl, hit, hl, hr, hw⟩ := hrel
      have HW := Lib.hid hw
      have HIT := Lib.hid hit
      clear hw hit
      by_cases hlt : n < 4
      · skip
        have hfl := fN_lt salt HH.out n r
        have hx := bits_xor_i64 l (fN salt size n r) (by omega) (by omega)
        have hxl := xor_in HH.out (show l < size by assumption) hfl
        have HN := Lib.hid (show itL salt size (n + 1) c = (r, l ^^^ fN salt size n r) by show rndL salt size n (itL salt size n c) = _; rw [HIT.out]; rfl)
        go_wp2_with (go_at_call 210; refine (c_impl_swapDigits r n h size salt _ HH.out (by assumption) HS.out (by omega)).mono ?_; rintro e w' ⟨rfl, q', rfl⟩)
        go_roundw
        case rel => exact ⟨n + 1, _, _, _, by omega, by go_num, rfl, rfl, HN.out, by first | assumption | exact hxl, by first | assumption | exact hxl, by rw [HW.out, World.drewN_drewN]⟩
        case measure => simp [intOf]; omega
      · obtain rfl : n = 4 := by omega
        obtain ⟨t, ht⟩ : ∃ t, l * size = t := ⟨_, rfl⟩
        have hm : ((l : Nat) : Int) * (size : Int) = (t : Int) := by rw [← ht, Int.natCast_mul]
        have hml : t ≤ 65280 := by rw [← ht]; exact mul_small hl hle
        have HJ := Lib.hid (show (t : Int) + (r : Int) = ((join2 size (l, r) : Nat) : Int) by rw [← ht]; exact join2_int size l r)
        clear ht
        have HR' := Lib.hid (show swapN salt size k = join2 size (l, r) by rw [HR.out, HIT.out])
        skip
        go_wp2
        go_ret
        exact ⟨by rw [HR'.out, ← HJ.out]; rfl, _, HW.out⟩
set_option maxHeartbeats 1000000 in
theorem c_impl_backOnce (k h size : Nat) (salt : Int) (w : World) (H : Half h size) (hk : k < size * size) (hs : keyB salt = true) :
    Calls Try.prog 106 #[.int .i64 k, .int .i64 salt, .int .i64 h] w fun e w' => e = .returned (.int .i64 (backN salt size k : Nat)) ∧ ∃ q, w' = w.drewN q := by
  have hp := H.int
  have hle := H.le
  have hge := H.ge
  have hh8 := H.hi
  have hmn : min h 64 = h := by omega
  have hw := wrap_small (show size ≤ 65536 by omega)
  have hf0 : ¬ (size : Int) = 0 := by omega
  have HH := Lib.hid H
  have HS := Lib.hid hs
  obtain ⟨c, hc⟩ : ∃ c, cut2 size k = c := ⟨_, rfl⟩
  have HC := Lib.hid (show inS size c by rw [← hc]; exact cut2_in (by omega) hk)
  have hc1 : (k : Int) / (size : Int) = (c.1 : Int) := by rw [← hc]; exact (Int.natCast_ediv k size).symm
  have hc2 : (k : Int) % (size : Int) = (c.2 : Int) := by rw [← hc]; exact (Int.natCast_emod k size).symm
  have HR := Lib.hid (show backN salt size k = join2 size (itR salt size 4 c) by rw [backN_it, hc])
  clear hs hc H hk
  go_enter Try.func106, Try.ntmps106
  go_wp2
  go_region
  all_goals
    go_wp2
    try simp only [hc2]
    go_loopw [7, 8, 9] (fun x y i wr => ∃ n l r q : Nat, n ≤ 4 ∧ i = .int .i64 (3 - (n : Int)) ∧ x = .int .i64 l ∧ y = .int .i64 r ∧ itR salt size n c = (l, r) ∧ l < size ∧ r < size ∧ wr = w.drewN q) (fun _ _ i _ => (intOf i + 1).toNat)
    case atStart => exact ⟨0, c.1, c.2, _, by omega, rfl, by first | rfl | rw [hc1], by first | rfl | rw [hc2], rfl, HC.out.1, HC.out.2, rfl⟩
    case round =>
      obtain ⟨n, l, r, q, hn, rfl, rfl, rfl, hit, hl, hr, hw⟩ := hrel
      have HW := Lib.hid hw
      have HIT := Lib.hid hit
      clear hw hit
      by_cases hlt : n < 4
      · have hi3 : (3 - (n : Int)) = ((3 - n : Nat) : Int) := by omega
        have hfl := fN_lt salt HH.out (3 - n) l
        have hx := bits_xor_i64 r (fN salt size (3 - n) l) (by omega) (by omega)
        have hxl := xor_in HH.out (show r < size by assumption) hfl
        have HN := Lib.hid (show itR salt size (n + 1) c = (r ^^^ fN salt size (3 - n) l, l) by show rndR salt size (3 - n) (itR salt size n c) = _; rw [HIT.out]; rfl)
        go_wp2_with (go_at_call 210; refine (c_impl_swapDigits l (3 - n) h size salt _ HH.out (by assumption) HS.out (by omega)).mono ?_; rintro e w' ⟨rfl, q', rfl⟩)
        go_roundw
        case rel => exact ⟨n + 1, _, _, _, by omega, by go_num, rfl, rfl, HN.out, by first | assumption | exact hxl, by first | assumption | exact hxl, by rw [HW.out, World.drewN_drewN]⟩
        case measure => simp [intOf]; omega
      · obtain rfl : n = 4 := by omega
        obtain ⟨t, ht⟩ : ∃ t, l * size = t := ⟨_, rfl⟩
        have hm : ((l : Nat) : Int) * (size : Int) = (t : Int) := by rw [← ht, Int.natCast_mul]
        have hml : t ≤ 65280 := by rw [← ht]; exact mul_small hl hle
        have HJ := Lib.hid (show (t : Int) + (r : Int) = ((join2 size (l, r) : Nat) : Int) by rw [← ht]; exact join2_int size l r)
        clear ht
        have HR' := Lib.hid (show backN salt size k = join2 size (l, r) by rw [HR.out, HIT.out])
        skip
        go_wp2
        go_ret
        exact ⟨by rw [HR'.out, ← HJ.out]; rfl, _, HW.out⟩
end Go.Proofs.Ytibldgcfplpdkaa
