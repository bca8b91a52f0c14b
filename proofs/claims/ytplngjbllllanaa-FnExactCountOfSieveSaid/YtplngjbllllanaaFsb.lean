/- Subnormal numbers, plainly: on bits, and by comparison after widening. -/
import Derived.Test.YtplngjbllllanaaFlb
namespace Go.Proofs.Ytplngjbllllanaa.Flo
open Go

def subB (x : Nat) : Bool := decide (x % 2147483648 ≠ 0 ∧ x % 2147483648 < 8388608)
def flV (x : Nat) : Nat := if x % 2147483648 < 8388608 then x / 2147483648 % 2 * 2147483648 else x

theorem decode32_kinds (x : Nat) :
    (x % 2147483648 < 8388608 ∧ FloatKind.f32.decode x = .number (x / 2147483648 % 2 == 1) (x % 2147483648) (-149)) ∨
    (8388608 ≤ x % 2147483648 ∧ ∃ m e, FloatKind.f32.decode x = .number (x / 2147483648 % 2 == 1) m e ∧ 2 ^ 23 ≤ m ∧ m < 2 ^ 24 ∧ -149 ≤ e ∧ e ≤ 104) ∨
    (8388608 ≤ x % 2147483648 ∧ ∃ s, FloatKind.f32.decode x = .infinity s) ∨ (8388608 ≤ x % 2147483648 ∧ ∃ s t, FloatKind.f32.decode x = .nan s t) := by
  have h0 : FloatKind.f32.decode x = Ieee.single.read x := rfl
  rw [h0]
  unfold Ieee.Format.read
  simp only
  by_cases h1 : x % Ieee.single.signWeight < Ieee.single.binade
  · rw [if_pos h1]
    rw [single_bin, single_sw] at h1
    exact .inl ⟨h1, rfl⟩
  · rw [if_neg h1]
    by_cases h2 : x % Ieee.single.signWeight < Ieee.single.infRung
    · rw [if_pos h2]
      rw [single_bin, single_sw] at h1
      rw [single_inf, single_sw] at h2
      rw [single_sw, single_bin, single_least]
      exact .inr (.inl ⟨by omega, _, _, rfl, by omega, by omega, by omega, by omega⟩)
    · rw [if_neg h2]
      rw [single_bin, single_sw] at h1
      by_cases h3 : x % Ieee.single.signWeight = Ieee.single.infRung
      · rw [if_pos h3]
        exact .inr (.inr (.inl ⟨by omega, _, rfl⟩))
      · rw [if_neg h3]
        exact .inr (.inr (.inr ⟨by omega, _, _, rfl⟩))

theorem compare_int_eq (a b : Int) : (compare a b == Ordering.eq) = decide (a = b) := by
  rw [Bool.eq_iff_iff]; simp
theorem some_beq (a b : Ordering) : (some a == some b) = (a == b) := by cases a <;> cases b <;> rfl

/-- x == 0 -/
theorem order_zero (x : Nat) : (FloatKind.f32.format.order x 0 == some .eq) = decide (x % 2147483648 = 0) := by
  have ho : FloatKind.f32.format.order x 0 = (FloatKind.f32.decode x).order (.number false 0 (-149)) := rfl
  rw [ho]
  rcases decode32_kinds x with ⟨h, hd⟩ | ⟨h, m, e, hd, h1, h2, h3, h4⟩ | ⟨h, s, hd⟩ | ⟨h, s, t, hd⟩
  · rw [hd]
    have e1 : min (-149 : Int) (-149) = -149 := by omega
    simp only [Ieee.Datum.order, e1]
    rw [some_beq, compare_int_eq]
    generalize x % 2147483648 = m
    cases (x / 2147483648 % 2 == 1) <;> simp [Ieee.signed]
  · rw [hd, decide_eq_false (by omega)]
    have e1 : min e (-149 : Int) = -149 := by omega
    simp only [Ieee.Datum.order, e1]
    rw [some_beq, compare_int_eq, decide_eq_false]
    have hp : 0 < m * 2 ^ (e - -149).toNat := Nat.mul_pos (by omega) (Nat.two_pow_pos _)
    have hz : Ieee.signed false 0 (-149 - -149 : Int).toNat = 0 := rfl
    rw [hz]
    rw [← Nat.shiftLeft_eq] at hp
    cases (x / 2147483648 % 2 == 1)
    · show ¬ (((m <<< (e - -149).toNat : Nat) : Int) = 0); omega
    · show ¬ (-((m <<< (e - -149).toNat : Nat) : Int) = 0); omega
  · rw [hd, decide_eq_false (by omega)]; cases s <;> rfl
  · rw [hd, decide_eq_false (by omega)]; rfl

theorem pow126 : FloatKind.f64.decode 4039728865751334912 = .number false 4503599627370496 (-178) := rfl

/-- |x| < 2 ^ -126, widened -/
theorem abs_lt (w : World) (x : Nat) : (FloatKind.f64.format.order (convR w .f32 x .f64 % 9223372036854775808) 4039728865751334912 == some .lt) = decide (x % 2147483648 < 8388608) := by
  have h : FloatKind.f64.decode (convR w .f32 x .f64 % 9223372036854775808) = Dabs (FloatKind.f64.decode (convR w .f32 x .f64)) := read_abs Ieee.double _
  have ho : FloatKind.f64.format.order (convR w .f32 x .f64 % 9223372036854775808) 4039728865751334912 = (FloatKind.f64.decode (convR w .f32 x .f64 % 9223372036854775808)).order (FloatKind.f64.decode 4039728865751334912) := rfl
  rw [ho, h, pow126]
  have num : ∀ s m e, FloatKind.f32.decode x = .number s m e → FloatKind.f64.decode (convR w .f32 x .f64) = FloatKind.f64.decode (FloatKind.f64.encode (.number s m e)) := by
    intro s m e hd
    unfold convR
    rw [widen_number hd]
    rfl
  rcases decode32_kinds x with ⟨h, hd⟩ | ⟨h, m, e, hd, h1, h2, h3, h4⟩ | ⟨h, s, hd⟩ | ⟨h, s, t, hd⟩
  · rw [num _ _ _ hd, decide_eq_true h]
    generalize x % 2147483648 = m at *
    by_cases h0 : m = 0
    · subst h0
      rw [decode_encode64_zero]
      rfl
    · rw [decode_encode64 h0 (by omega) (by omega) (by omega)]
      have hl : m.log2 < 23 := (Nat.log2_lt h0).2 (by omega)
      obtain ⟨_, b2⟩ := shl_bounds h0 (n := 52) (by omega)
      generalize m.log2 = lg at *
      have e1 : min ((-149 : Int) - (52 - lg : Nat)) (-178) = -149 - (52 - lg : Nat) := by omega
      simp only [Dabs, Ieee.Datum.order, e1]
      have e2 : ((-149 : Int) - (52 - lg : Nat) - (-149 - (52 - lg : Nat))).toNat = 0 := by omega
      have e3 : ((-178 : Int) - (-149 - (52 - lg : Nat))).toNat = 1 + (22 - lg) := by omega
      rw [e2, e3, some_beq]
      have hlt : m * 2 ^ (52 - lg) < 4503599627370496 * 2 ^ (1 + (22 - lg)) := by
        refine Nat.lt_of_lt_of_le b2 ?_
        have : 2 ^ 1 ≤ 2 ^ (1 + (22 - lg)) := Nat.pow_le_pow_right (by omega) (by omega)
        calc 2 ^ (52 + 1) = 4503599627370496 * 2 ^ 1 := rfl
          _ ≤ _ := Nat.mul_le_mul_left _ this
      simp only [Ieee.signed, Bool.false_eq_true, if_false, Nat.shiftLeft_eq, Nat.pow_zero, Nat.mul_one]
      generalize m * 2 ^ (52 - lg) = A at *
      generalize 4503599627370496 * 2 ^ (1 + (22 - lg)) = B at *
      have : compare (A : Int) (B : Int) = .lt := by rw [Int.compare_eq_lt]; omega
      rw [this]; rfl
  · rw [num _ _ _ hd, decide_eq_false (by omega)]
    have h0 : m ≠ 0 := by omega
    rw [decode_encode64 h0 (by omega) (by omega) (by omega)]
    have hl : m.log2 = 23 := by
      have a1 : m.log2 < 24 := (Nat.log2_lt h0).2 (by omega)
      have a2 : 23 ≤ m.log2 := (Nat.le_log2 h0).2 (by omega)
      omega
    rw [hl]
    have e1 : min (e - ((52 - 23 : Nat) : Int)) (-178) = -178 := by omega
    simp only [Dabs, Ieee.Datum.order, e1]
    rw [some_beq]
    simp only [Ieee.signed, Bool.false_eq_true, if_false, Nat.shiftLeft_eq]
    have hle : 4503599627370496 * 2 ^ (-178 - -178 : Int).toNat ≤ m * 2 ^ (52 - 23) * 2 ^ (e - ((52 - 23 : Nat) : Int) - -178).toNat := by
      have hp : 1 ≤ 2 ^ (e - ((52 - 23 : Nat) : Int) - -178).toNat := Nat.two_pow_pos _
      have hb : 4503599627370496 ≤ m * 2 ^ (52 - 23) := by
        calc 4503599627370496 = 2 ^ 23 * 2 ^ (52 - 23) := rfl
          _ ≤ _ := Nat.mul_le_mul_right _ h1
      calc 4503599627370496 * 2 ^ (-178 - -178 : Int).toNat = 4503599627370496 := rfl
        _ ≤ m * 2 ^ (52 - 23) * 1 := by omega
        _ ≤ _ := Nat.mul_le_mul_left _ hp
    generalize m * 2 ^ (52 - 23) * 2 ^ (e - ((52 - 23 : Nat) : Int) - -178).toNat = A at *
    generalize 4503599627370496 * 2 ^ (-178 - -178 : Int).toNat = B at *
    have : compare (A : Int) (B : Int) ≠ .lt := by rw [Ne, Int.compare_eq_lt]; omega
    cases hc : compare (A : Int) (B : Int)
    · exact absurd hc this
    · rfl
    · rfl
  · rw [decide_eq_false (by omega)]
    unfold convR
    rw [widen_infinity hd, Option.getD_some]
    have : FloatKind.f64.decode (FloatKind.f64.encode (.infinity s)) = .infinity s := by cases s <;> kernel_rfl
    rw [this]
    cases s <;> rfl
  · rw [decide_eq_false (by omega)]
    have hn : floatToFloatBits .f32 x .f64 = none := by unfold floatToFloatBits; rw [if_neg (by decide), hd]
    have h1 : (FloatKind.f32.decode x).isNaN = true := by rw [hd]; rfl
    unfold convR
    rw [hn, Option.getD_none, if_pos h1]
    obtain ⟨s', t', he⟩ := (isNaN_iff _).1 (cut_nanConv .f64 x (w.tape w.drawn (.nanConv .f64 x))).1
    rw [he]; rfl

theorem and_i64 (n c : Nat) (hn : n < 9223372036854775808) (hc : c < 9223372036854775808) : bits .and .i64 (n : Int) (c : Int) = ((n &&& c : Nat) : Int) := by
  have hlt : n &&& c < 9223372036854775808 := Nat.lt_of_le_of_lt Nat.and_le_left hn
  have e : (BitVec.ofInt 64 (n : Int) &&& BitVec.ofInt 64 (c : Int)).toNat = n &&& c := by
    rw [BitVec.toNat_and, BitVec.toNat_ofInt, BitVec.toNat_ofInt]
    have a1 : ((n : Int) % ((2 ^ 64 : Nat) : Int)).toNat = n := by
      have : ((2 ^ 64 : Nat) : Int) = 18446744073709551616 := rfl
      rw [this]; omega
    have a2 : ((c : Int) % ((2 ^ 64 : Nat) : Int)).toNat = c := by
      have : ((2 ^ 64 : Nat) : Int) = 18446744073709551616 := rfl
      rw [this]; omega
    rw [a1, a2]
  show IntKind.i64.wrap (((BitVec.ofInt 64 (n : Int) &&& BitVec.ofInt 64 (c : Int)).toNat : Nat) : Int) = _
  rw [e, IntKind.wrap_i64]
  omega

/-- the exponent's field is nought -/
theorem expo_zero (x : Nat) (h : x < 4294967296) : (bits .and .i64 (((fv .f32 x).getD 2143289344 : Nat) : Int) 2139095040 == 0) = decide (x % 2147483648 < 8388608) := by
  have key : ∀ n : Nat, n < 4294967296 → (bits .and .i64 (n : Int) 2139095040 == 0) = decide (n % 2147483648 < 8388608) := by
    intro n hn
    have e := and_i64 n 2139095040 (by omega) (by omega)
    have e2 : ((2139095040 : Nat) : Int) = 2139095040 := rfl
    rw [e2] at e
    have hm := nat_midmask 31 23 n (by omega)
    have e3 : 2 ^ 31 - 2 ^ 23 = 2139095040 := rfl
    rw [e3] at hm
    rw [e, hm]
    have e4 : 2 ^ 31 = 2147483648 := rfl
    have e5 : 2 ^ 23 = 8388608 := rfl
    rw [e4, e5, Bool.eq_iff_iff]
    simp only [beq_iff_eq, decide_eq_true_eq]
    omega
  rcases fv_cases .f32 x with ⟨hn, hf⟩ | ⟨hn, hf⟩
  · rw [hf]
    have h1 := key 2143289344 (by omega)
    show (bits .and .i64 ((2143289344 : Nat) : Int) 2139095040 == 0) = _
    rw [h1]
    rcases decode32_kinds x with ⟨h, hd⟩ | ⟨h, m, e, hd, _⟩ | ⟨h, s, hd⟩ | ⟨h, s, t, hd⟩
    · rw [hd] at hn; cases hn
    · rw [hd] at hn; cases hn
    · rw [hd] at hn; cases hn
    · rw [decide_eq_false (by omega), decide_eq_false (by omega)]
  · rw [hf]; exact key x h

theorem sign_bit (x : Nat) (h : x < 4294967296) (hs : x % 2147483648 < 8388608) : bits .and .i64 (((fv .f32 x).getD 2143289344 : Nat) : Int) 2147483648 = ((flV x : Nat) : Int) := by
  have hn : (FloatKind.f32.decode x).isNaN = false := by
    rcases decode32_kinds x with ⟨h, hd⟩ | ⟨h, _⟩ | ⟨h, _⟩ | ⟨h, _⟩
    · rw [hd]; rfl
    all_goals omega
  rw [fv_some hn]
  have e := and_i64 x 2147483648 (by omega) (by omega)
  have e2 : ((2147483648 : Nat) : Int) = 2147483648 := rfl
  rw [e2] at e
  show bits .and .i64 (x : Int) 2147483648 = _
  have hm := nat_midmask 32 31 x (by omega)
  have e3 : 2 ^ 32 - 2 ^ 31 = 2147483648 := rfl
  rw [e3] at hm
  rw [e, hm]
  unfold flV
  rw [if_pos hs]
  have e4 : 2 ^ 31 = 2147483648 := rfl
  have e5 : 2 ^ 32 = 4294967296 := rfl
  rw [e4, e5]
  omega

theorem flV_lt (x : Nat) (h : x < 4294967296) : flV x < 4294967296 := by unfold flV; split <;> omega

theorem flV_else {x : Nat} (h : ¬ x % 2147483648 < 8388608) : flV x = x := if_neg h
theorem flV_zero {x : Nat} (h : x < 4294967296) (hz : x % 2147483648 = 0) : flV x = x := by unfold flV; rw [if_pos (by omega)]; omega

/-- the sign alone, of a float that is widened -/
theorem copysign_bits (W : Nat) (h : W < 18446744073709551616) : (bits .or .u64 (bits .andNot .u64 0 9223372036854775808) (bits .and .u64 (W : Int) 9223372036854775808)).toNat = W / 9223372036854775808 * 9223372036854775808 := by
  have h1 := u64_and (W : Int) 9223372036854775808 (by omega) (by omega) (by omega) (by omega)
  have h2 : bits .andNot .u64 0 9223372036854775808 = 0 := by rfl
  have h3 := nat_midmask 64 63 W (by omega)
  have e3 : 2 ^ 64 - 2 ^ 63 = 9223372036854775808 := rfl
  have e4 : 2 ^ 64 = 18446744073709551616 := rfl
  have e5 : 2 ^ 63 = 9223372036854775808 := rfl
  rw [e3, e4, e5, Nat.mod_eq_of_lt h] at h3
  rw [h1, h2, Int.toNat_natCast]
  have e6 : (9223372036854775808 : Int).toNat = 9223372036854775808 := rfl
  rw [e6, h3]
  generalize hk : W / 9223372036854775808 = q
  have hq : q = 0 ∨ q = 1 := by omega
  rcases hq with rfl | rfl <;> rfl

/-- narrowed again: the sign of x -/
theorem fv_flush (w w' : World) (x : Nat) (hs : x % 2147483648 < 8388608) : fv .f32 (convR w' .f64 (convR w .f32 x .f64 / 9223372036854775808 * 9223372036854775808) .f32) = fv .f32 (flV x) := by
  rcases decode32_kinds x with ⟨_, hd⟩ | ⟨h', _⟩ | ⟨h', _⟩ | ⟨h', _⟩
  case inl =>
    have hw : convR w .f32 x .f64 = FloatKind.f64.encode (.number (x / 2147483648 % 2 == 1) (x % 2147483648) (-149)) := by unfold convR; rw [widen_number hd]; rfl
    have hv : flV x = x / 2147483648 % 2 * 2147483648 := by unfold flV; rw [if_pos hs]
    have hlt : ∀ s, ∃ r, r < 9223372036854775808 ∧ FloatKind.f64.encode (.number s (x % 2147483648) (-149)) = Ieee.double.word s r := by
      intro s
      by_cases h0 : x % 2147483648 = 0
      · rw [h0]
        exact ⟨0, by omega, by simp [FloatKind.encode, Ieee.Format.write, Ieee.Format.nearest, FloatKind.format]⟩
      · have hl : (x % 2147483648).log2 < 23 := (Nat.log2_lt h0).2 (by omega)
        obtain ⟨_, b2⟩ := shl_bounds h0 (n := 52) (by omega)
        refine ⟨_, ?_, encode64 h0 (by omega) (by omega) (by omega)⟩
        have b2' : x % 2147483648 * 2 ^ (52 - (x % 2147483648).log2) < 9007199254740992 := b2
        omega
    rw [hw, hv]
    have hb : x / 2147483648 % 2 = 0 ∨ x / 2147483648 % 2 = 1 := by omega
    rcases hb with hb | hb
    · rw [hb]
      obtain ⟨r, hr, he⟩ := hlt false
      have e0 : ((0 : Nat) == 1) = false := rfl
      rw [e0, he]
      have e1 : Ieee.double.word false r / 9223372036854775808 = 0 := Nat.div_eq_of_lt hr
      rw [e1]
      have z : floatToFloatBits .f64 (0 * 9223372036854775808) .f32 = some 0 := by kernel_rfl
      unfold convR
      rw [z, Option.getD_some, Nat.zero_mul]
    · rw [hb]
      obtain ⟨r, hr, he⟩ := hlt true
      have e0 : ((1 : Nat) == 1) = true := rfl
      rw [e0, he]
      have e1 : Ieee.double.word true r / 9223372036854775808 = 1 := by
        have : Ieee.double.word true r = 9223372036854775808 + r := rfl
        rw [this]; omega
      rw [e1]
      have z : floatToFloatBits .f64 (1 * 9223372036854775808) .f32 = some 2147483648 := by kernel_rfl
      unfold convR
      rw [z, Option.getD_some, Nat.one_mul]
  all_goals omega

end Go.Proofs.Ytplngjbllllanaa.Flo
