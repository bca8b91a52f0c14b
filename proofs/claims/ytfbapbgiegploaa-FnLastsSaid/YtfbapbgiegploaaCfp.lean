/- Finite quotients of 32-bit floats: plain facts. No program. -/
import Derived.Test.YtfbapbgiegploaaCep
namespace Go.Proofs.Ytfbapbgiegploaa.Flo
open Go Go.RowKit
set_option linter.unusedVariables false
theorem cut_ge_ (s : Bool) (n d : Nat) : n / 2 ^ d ≤ Ieee.Toward.even.cut s n d := by
  unfold Ieee.Toward.cut
  simp only [Nat.shiftLeft_eq, Nat.one_mul]
  refine Nat.le_trans (Nat.div_le_div_left (Nat.pow_le_pow_right (by omega) (Nat.min_le_left _ _)) (Nat.two_pow_pos _)) (Nat.le_add_right _ _)
theorem rung_ge32 (s : Bool) {m : Nat} {e t : Int} (h : t ≤ e + m.log2) (h0 : m ≠ 0) (ht : -126 ≤ t) :
    (t + 127).toNat * 8388608 ≤ rungOf Ieee.single s m e := by
  obtain ⟨l1, l2⟩ := log2_bounds h0
  unfold rungOf
  simp only [Nat.shiftLeft_eq, single_least, single_bin]
  generalize m.log2 = lg at *
  have hf : (Ieee.single.fractionBits : Int) = 23 := rfl
  rw [hf, Int.max_eq_left (by omega)]
  generalize hla : e + (lg : Int) - 23 = last at *
  have hk := cut_ge_ s (m * 2 ^ (e - last).toNat) (last - e).toNat
  have hn : 8388608 ≤ m * 2 ^ (e - last).toNat / 2 ^ (last - e).toNat := by
    rw [Nat.le_div_iff_mul_le (Nat.two_pow_pos _)]
    calc 8388608 * 2 ^ (last - e).toNat = 2 ^ 23 * 2 ^ (last - e).toNat := rfl
      _ = 2 ^ lg * 2 ^ (e - last).toNat := by rw [← Nat.pow_add, ← Nat.pow_add]; congr 1; omega
      _ ≤ _ := Nat.mul_le_mul_right _ l1
  have h1 : (t + 127).toNat ≤ (last - (-149)).toNat + 1 := by omega
  calc (t + 127).toNat * 8388608 ≤ ((last - (-149)).toNat + 1) * 8388608 := Nat.mul_le_mul_right _ h1
    _ = (last - (-149)).toNat * 8388608 + 8388608 := by rw [Nat.add_mul, Nat.one_mul]
    _ ≤ _ := Nat.add_le_add_left (Nat.le_trans hn hk) _
/-- rounding keeps both bounds -/
theorem nearest_both (s : Bool) {m : Nat} {e t t' : Int} (h : t ≤ e + m.log2) (h0 : m ≠ 0) (ht : -126 ≤ t) (hb : bd m e t') (h1 : -126 ≤ t') (h2 : t' ≤ 127) :
    ∃ m' e', FloatKind.f32.decode (FloatKind.f32.format.nearest s m e) = .number s m' e' ∧ m' ≠ 0 ∧ t ≤ e' + m'.log2 ∧ bd m' e' t' := by
  obtain ⟨r1, r2⟩ := f32_room h1 h2
  obtain ⟨m0, e0, g1, g2⟩ := nearest_bd FloatKind.f32.format s hb r1 r2
  have hr := rung_le FloatKind.f32.format s h0 hb r1
  have hg := rung_ge32 s h h0 ht
  have hi : rungOf Ieee.single s m e < Ieee.single.infRung := Nat.lt_of_le_of_lt hr r2
  have key : ∃ m' e', FloatKind.f32.format.read (FloatKind.f32.format.nearest s m e) = .number s m' e' ∧ m' ≠ 0 ∧ t ≤ e' + m'.log2 := by
    show ∃ m' e', Ieee.single.read (Ieee.single.nearest s m e) = _ ∧ _
    rw [nearest_rung Ieee.single s e h0, Nat.min_eq_left (Nat.le_of_lt hi)]
    rw [read_wordf Ieee.single s _ hi]
    generalize rungOf Ieee.single s m e = r at *
    have hB : ¬ r < Ieee.single.binade := by rw [single_bin]; omega
    rw [if_neg hB, single_bin, single_least]
    refine ⟨_, _, rfl, by omega, ?_⟩
    have hl : (8388608 + r % 8388608).log2 = 23 := by
      have hne : 8388608 + r % 8388608 ≠ 0 := by omega
      have a1 : (8388608 + r % 8388608).log2 < 24 := (Nat.log2_lt hne).2 (by
        have : 2 ^ 24 = 16777216 := rfl
        rw [this]; omega)
      have a2 : 23 ≤ (8388608 + r % 8388608).log2 := (Nat.le_log2 hne).2 (by
        have : 2 ^ 23 = 8388608 := rfl
        rw [this]; omega)
      omega
    rw [hl]
    omega
  obtain ⟨m', e', k1, k2, k3⟩ := key
  rw [g1] at k1
  injection k1 with i1 i2 i3
  subst i2; subst i3
  exact ⟨m0, e0, g1, k2, k3, g2⟩
/-- a whole number from 1 to 2 ^ 32, as a 32-bit float -/
theorem int_both {n : Int} (h0 : 1 ≤ n) (h1 : n ≤ 4294967296) : ∃ m e, FloatKind.f32.decode (floatOfInt .f32 n) = .number false m e ∧ m ≠ 0 ∧ 0 ≤ e + m.log2 ∧ bd m e 32 := by
  have hfi : floatOfInt .f32 n = FloatKind.f32.format.nearest (decide (n < 0)) n.natAbs 0 := rfl
  have hd : decide (n < 0) = false := decide_eq_false (by omega)
  rw [hfi, hd]
  exact nearest_both false (t := 0) (by omega) (by omega) (by omega) (.inr ⟨by omega, by have e2 : ((32 : Int) - 0).toNat = 32 := rfl; rw [e2]; have h32 : 2 ^ 32 = 4294967296 := rfl; omega⟩) (by omega) (by omega)
theorem bd_quo25 {m n : Nat} {i j a : Int} (hn : n ≠ 0) (h : bd m i a) :
    bd (2 * ((m <<< (25 + n.log2 - m.log2)) / n) + ((m <<< (25 + n.log2 - m.log2)) % n != 0).toNat) (i - j - (25 + n.log2 - m.log2 : Nat) - 1) (a - (j + n.log2)) := by
  by_cases h0 : m = 0
  · subst h0
    left
    rw [Nat.shiftLeft_eq, Nat.zero_mul, Nat.zero_div, Nat.zero_mod]
    rfl
  · have hT := bd_log h0 h
    rcases h with h | ⟨h1, h2⟩
    · exact absurd h h0
    obtain ⟨l1, l2⟩ := log2_bounds hn
    generalize hmore : 25 + n.log2 - m.log2 = more
    generalize hln : n.log2 = ln at *
    generalize hlm : m.log2 = lm at *
    have hE : 0 ≤ (a - i) + more - ln := by omega
    have hD : m <<< more ≤ n * 2 ^ ((a - i) + more - ln).toNat := by
      rw [Nat.shiftLeft_eq]
      calc m * 2 ^ more ≤ 2 ^ (a - i).toNat * 2 ^ more := Nat.mul_le_mul_right _ h2
        _ = 2 ^ ln * 2 ^ ((a - i) + more - ln).toNat := by rw [← Nat.pow_add, ← Nat.pow_add]; congr 1; omega
        _ ≤ _ := Nat.mul_le_mul_right _ l1
    generalize m <<< more = D at *
    generalize hX : ((a - i) + more - ln).toNat = X at *
    right
    refine ⟨by omega, ?_⟩
    have e : (a - (j + (ln : Int)) - (i - j - (more : Int) - 1)).toNat = X + 1 := by omega
    rw [e, Nat.pow_succ]
    have hpos : 0 < n := Nat.pos_of_ne_zero hn
    by_cases hr : D % n = 0
    · rw [hr]
      have : D / n ≤ 2 ^ X := Nat.div_le_of_le_mul hD
      simp; omega
    · have hlt : D < n * 2 ^ X := by
        refine Nat.lt_of_le_of_ne hD (fun he => hr ?_)
        rw [he, Nat.mul_mod_right]
      have : D / n < 2 ^ X := Nat.div_lt_of_lt_mul hlt
      have hb : (D % n != 0).toNat ≤ 1 := by cases (D % n != 0) <;> simp
      omega
theorem dec_232 : FloatKind.f32.decode 1333788672 = .number false 8388608 9 := by kernel_rfl
theorem log2_bin : Nat.log2 8388608 = 23 := by
  have a1 : Nat.log2 8388608 < 24 := (Nat.log2_lt (by omega)).2 (by decide)
  have a2 : 23 ≤ Nat.log2 8388608 := (Nat.le_log2 (by omega)).2 (by decide)
  omega
/-- a share of 2 ^ 32 -/
theorem share32 {x : Nat} {m : Nat} {e : Int} (hd : FloatKind.f32.decode x = .number false m e) (h0 : m ≠ 0) (hl : 0 ≤ e + m.log2) (hb : bd m e 32) :
    ∃ s m' e', floatBits .quo .f32 x 1333788672 = some s ∧ FloatKind.f32.decode s = .number false m' e' ∧ m' ≠ 0 ∧ -32 ≤ e' + m'.log2 := by
  have h24 := (decode32_number hd).1
  have lm := log2_lt24 h0 h24
  obtain ⟨l1, l2⟩ := log2_bounds h0
  have eq : floatBits .quo .f32 x 1333788672 = ((FloatKind.f32.decode x).quotient 25 (FloatKind.f32.decode 1333788672)).map FloatKind.f32.format.write := rfl
  have hq := bd_quo25 (n := 8388608) (j := 9) (by omega) hb
  rw [log2_bin] at hq
  have hM : 2 * ((m <<< (25 + 23 - m.log2)) / 8388608) + ((m <<< (25 + 23 - m.log2)) % 8388608 != 0).toNat = m * 2 ^ (26 - m.log2) := by
    have e1 : m <<< (25 + 23 - m.log2) = (m * 2 ^ (25 - m.log2)) * 8388608 := by
      rw [Nat.shiftLeft_eq, show (8388608 : Nat) = 2 ^ 23 from rfl, Nat.mul_assoc, ← Nat.pow_add]; congr 2; omega
    rw [e1, Nat.mul_div_cancel _ (by omega), Nat.mul_mod_left]
    have e2 : 2 ^ (26 - m.log2) = 2 * 2 ^ (25 - m.log2) := by rw [show 26 - m.log2 = (25 - m.log2) + 1 by omega, Nat.pow_succ, Nat.mul_comm]
    rw [e2]
    generalize 2 ^ (25 - m.log2) = u
    show 2 * (m * u) + 0 = m * (2 * u)
    rw [Nat.add_zero, Nat.mul_left_comm]
  rw [hM] at hq
  have hne : m * 2 ^ (26 - m.log2) ≠ 0 := Nat.mul_ne_zero h0 (Nat.pos_iff_ne_zero.1 (Nat.two_pow_pos _))
  have hlog : (26 : Nat) ≤ (m * 2 ^ (26 - m.log2)).log2 := (Nat.le_log2 hne).2 (by
    calc 2 ^ 26 = 2 ^ m.log2 * 2 ^ (26 - m.log2) := by rw [← Nat.pow_add]; congr 1; omega
      _ ≤ _ := Nat.mul_le_mul_right _ l1)
  obtain ⟨m', e', g1, g2, g3, g4⟩ := nearest_both false (m := m * 2 ^ (26 - m.log2)) (e := e - 9 - ((25 + 23 - m.log2 : Nat) : Int) - 1) (t := -32) (by omega) hne (by omega) (bd_mono hq (t' := 32) (by omega)) (by omega) (by omega)
  refine ⟨_, m', e', ?_, g1, g2, g3⟩
  rw [eq, hd, dec_232]
  simp only [Ieee.Datum.quotient, if_neg (show ¬ (8388608 : Nat) = 0 by omega), log2_bin, hM]
  rfl
/-- how many keys: finite -/
theorem count_fin {n x : Nat} {s : Bool} {m k : Nat} {e i : Int} {sg : Bool} (hd : FloatKind.f32.decode n = .number s m e) (hb : bd m e 21) (hx : FloatKind.f32.decode x = .number sg k i) (hk : k ≠ 0) (hl : -32 ≤ i + k.log2) :
    ∃ r, floatBits .quo .f32 n x = some r ∧ isFin .f32 r = true := by
  have eq : floatBits .quo .f32 n x = ((FloatKind.f32.decode n).quotient 25 (FloatKind.f32.decode x)).map FloatKind.f32.format.write := rfl
  have hq := bd_quo25 (n := k) (j := i) hk hb
  obtain ⟨r1, r2⟩ := f32_room (t := 53) (by omega) (by omega)
  obtain ⟨m', e', g1, g2⟩ := nearest_bd FloatKind.f32.format (s ^^ sg) (bd_mono hq (t' := 53) (by omega)) r1 r2
  refine ⟨FloatKind.f32.format.nearest (s ^^ sg) (2 * ((m <<< (25 + k.log2 - m.log2)) / k) + ((m <<< (25 + k.log2 - m.log2)) % k != 0).toNat) (e - i - (25 + k.log2 - m.log2 : Nat) - 1), ?_, ?_⟩
  · rw [eq, hd, hx]
    simp only [Ieee.Datum.quotient, if_neg hk]
    rfl
  · unfold isFin
    have g1' : FloatKind.f32.decode (FloatKind.f32.format.nearest (s ^^ sg) (2 * ((m <<< (25 + k.log2 - m.log2)) / k) + ((m <<< (25 + k.log2 - m.log2)) % k != 0).toNat) (e - i - (25 + k.log2 - m.log2 : Nat) - 1)) = .number (s ^^ sg) m' e' := g1
    rw [g1']
end Go.Proofs.Ytfbapbgiegploaa.Flo
