/- Jumps: the next place is at least one further. No program. -/
import Derived.Test.YtibldgcfplpdkaaJmq
namespace Go.Proofs.Ytibldgcfplpdkaa.Flo
open Go Go.RowKit
set_option linter.unusedVariables false
theorem rung_ge64 (s : Bool) {m : Nat} {e t : Int} (h : t ≤ e + m.log2) (h0 : m ≠ 0) (ht : -1022 ≤ t) :
    (t + 1023).toNat * 4503599627370496 ≤ rungOf Ieee.double s m e := by
  obtain ⟨l1, l2⟩ := log2_bounds h0
  unfold rungOf
  simp only [Nat.shiftLeft_eq, double_least, double_bin]
  generalize m.log2 = lg at *
  have hf : (Ieee.double.fractionBits : Int) = 52 := rfl
  rw [hf, Int.max_eq_left (by omega)]
  generalize hla : e + (lg : Int) - 52 = last at *
  have hk := cut_ge_ s (m * 2 ^ (e - last).toNat) (last - e).toNat
  have hn : 4503599627370496 ≤ m * 2 ^ (e - last).toNat / 2 ^ (last - e).toNat := by
    rw [Nat.le_div_iff_mul_le (Nat.two_pow_pos _)]
    calc 4503599627370496 * 2 ^ (last - e).toNat = 2 ^ 52 * 2 ^ (last - e).toNat := rfl
      _ = 2 ^ lg * 2 ^ (e - last).toNat := by rw [← Nat.pow_add, ← Nat.pow_add]; congr 1; omega
      _ ≤ _ := Nat.mul_le_mul_right _ l1
  have h1 : (t + 1023).toNat ≤ (last - (-1074)).toNat + 1 := by omega
  calc (t + 1023).toNat * 4503599627370496 ≤ ((last - (-1074)).toNat + 1) * 4503599627370496 := Nat.mul_le_mul_right _ h1
    _ = (last - (-1074)).toNat * 4503599627370496 + 4503599627370496 := by rw [Nat.add_mul, Nat.one_mul]
    _ ≤ _ := Nat.add_le_add_left (Nat.le_trans hn hk) _
/-- rounding keeps both bounds -/
theorem nearest_both64 (s : Bool) {m : Nat} {e t t' : Int} (h : t ≤ e + m.log2) (h0 : m ≠ 0) (ht : -1022 ≤ t) (hb : bd m e t') (h1 : -1022 ≤ t') (h2 : t' ≤ 1023) :
    ∃ m' e', FloatKind.f64.decode (FloatKind.f64.format.nearest s m e) = .number s m' e' ∧ m' ≠ 0 ∧ t ≤ e' + m'.log2 ∧ bd m' e' t' := by
  obtain ⟨r1, r2⟩ := f64_room h1 h2
  obtain ⟨m0, e0, g1, g2⟩ := nearest_bd FloatKind.f64.format s hb r1 r2
  have hr := rung_le FloatKind.f64.format s h0 hb r1
  have hg := rung_ge64 s h h0 ht
  have hi : rungOf Ieee.double s m e < Ieee.double.infRung := Nat.lt_of_le_of_lt hr r2
  have key : ∃ m' e', FloatKind.f64.format.read (FloatKind.f64.format.nearest s m e) = .number s m' e' ∧ m' ≠ 0 ∧ t ≤ e' + m'.log2 := by
    show ∃ m' e', Ieee.double.read (Ieee.double.nearest s m e) = _ ∧ _
    rw [nearest_rung Ieee.double s e h0, Nat.min_eq_left (Nat.le_of_lt hi)]
    rw [read_wordf Ieee.double s _ hi]
    generalize rungOf Ieee.double s m e = r at *
    have hB : ¬ r < Ieee.double.binade := by rw [double_bin]; omega
    rw [if_neg hB, double_bin, double_least]
    refine ⟨_, _, rfl, by omega, ?_⟩
    have hl : (4503599627370496 + r % 4503599627370496).log2 = 52 := by
      have hne : 4503599627370496 + r % 4503599627370496 ≠ 0 := by omega
      have a1 : (4503599627370496 + r % 4503599627370496).log2 < 53 := (Nat.log2_lt hne).2 (by
        have : 2 ^ 53 = 9007199254740992 := rfl
        rw [this]; omega)
      have a2 : 52 ≤ (4503599627370496 + r % 4503599627370496).log2 := (Nat.le_log2 hne).2 (by
        have : 2 ^ 52 = 4503599627370496 := rfl
        rw [this]; omega)
      omega
    rw [hl]
    omega
  obtain ⟨m', e', k1, k2, k3⟩ := key
  rw [g1] at k1
  injection k1 with i1 i2 i3
  subst i2; subst i3
  exact ⟨m0, e0, g1, k2, k3, g2⟩
theorem int_both64 {n : Int} (h0 : 1 ≤ n) (h1 : n ≤ 2147483648) : ∃ m e, FloatKind.f64.decode (floatOfInt .f64 n) = .number false m e ∧ m ≠ 0 ∧ 0 ≤ e + m.log2 ∧ bd m e 31 := by
  have hfi : floatOfInt .f64 n = FloatKind.f64.format.nearest (decide (n < 0)) n.natAbs 0 := rfl
  have hd : decide (n < 0) = false := decide_eq_false (by omega)
  rw [hfi, hd]
  exact nearest_both64 false (t := 0) (by omega) (by omega) (by omega) (.inr ⟨by omega, by have e2 : ((31 : Int) - 0).toNat = 31 := rfl; rw [e2]; have h31 : 2 ^ 31 = 2147483648 := rfl; omega⟩) (by omega) (by omega)
theorem dec_231 : FloatKind.f64.decode 4746794007248502784 = .number false 4503599627370496 (-21) := by kernel_rfl
theorem log2_bin64 : Nat.log2 4503599627370496 = 52 := by
  have a1 : Nat.log2 4503599627370496 < 53 := (Nat.log2_lt (by omega)).2 (by decide)
  have a2 : 52 ≤ Nat.log2 4503599627370496 := (Nat.le_log2 (by omega)).2 (by decide)
  omega
theorem quo_ge {y n : Nat} {j : Int} (hd : FloatKind.f64.decode y = .number false n j) (hn : n ≠ 0) (hl : 0 ≤ j + n.log2) (hb : bd n j 31) :
    ∃ q m e, floatBits .quo .f64 4746794007248502784 y = some q ∧ FloatKind.f64.decode q = .number false m e ∧ m ≠ 0 ∧ 0 ≤ e + m.log2 ∧ bd m e 31 := by
  have eq : floatBits .quo .f64 4746794007248502784 y = ((FloatKind.f64.decode 4746794007248502784).quotient 54 (FloatKind.f64.decode y)).map FloatKind.f64.format.write := rfl
  have hq := bd_quo (m := 4503599627370496) (i := -21) (a := 31) (j := j) hn (.inr ⟨by omega, by have e2 : ((31 : Int) - (-21)).toNat = 52 := rfl; rw [e2]; exact Nat.le_refl _⟩)
  rcases hb with hb | ⟨b1, b2⟩
  · exact absurd hb hn
  have hM : 2 * 2 ^ (23 + (n.log2 : Int) + j).toNat ≤ 2 * ((4503599627370496 <<< (54 + n.log2 - Nat.log2 4503599627370496)) / n) + ((4503599627370496 <<< (54 + n.log2 - Nat.log2 4503599627370496)) % n != 0).toNat := by
    refine Nat.le_trans (Nat.mul_le_mul_left 2 ?_) (Nat.le_add_right _ _)
    rw [Nat.le_div_iff_mul_le (Nat.pos_of_ne_zero hn), log2_bin64, Nat.shiftLeft_eq]
    calc 2 ^ (23 + (n.log2 : Int) + j).toNat * n ≤ 2 ^ (23 + (n.log2 : Int) + j).toNat * 2 ^ ((31 : Int) - j).toNat := Nat.mul_le_mul_left _ b2
      _ = 2 ^ 52 * 2 ^ (54 + n.log2 - 52) := by rw [← Nat.pow_add, ← Nat.pow_add]; congr 1; omega
      _ = 4503599627370496 * 2 ^ (54 + n.log2 - 52) := rfl
  generalize hMM : 2 * ((4503599627370496 <<< (54 + n.log2 - Nat.log2 4503599627370496)) / n) + ((4503599627370496 <<< (54 + n.log2 - Nat.log2 4503599627370496)) % n != 0).toNat = M at *
  have hp := Nat.two_pow_pos (23 + (n.log2 : Int) + j).toNat
  have hne : M ≠ 0 := by omega
  have hlog : (23 + (n.log2 : Int) + j).toNat + 1 ≤ M.log2 := (Nat.le_log2 hne).2 (by rw [Nat.pow_succ, Nat.mul_comm]; exact hM)
  rw [log2_bin64] at hq
  obtain ⟨m', e', g1, g2, g3, g4⟩ := nearest_both64 false (m := M) (e := -21 - j - ((54 + n.log2 - 52 : Nat) : Int) - 1) (t := 0) (by omega) hne (by omega) (bd_mono hq (t' := 31) (by omega)) (by omega) (by omega)
  refine ⟨_, m', e', ?_, g1, g2, g3, g4⟩
  rw [eq, hd, dec_231]
  simp only [Ieee.Datum.quotient, if_neg hn, log2_bin64] at *
  rw [hMM]
  rfl
def jumpQ (k : Nat) : Option Nat := floatBits .quo .f64 4746794007248502784 (floatOfInt .f64 ((k : Int) + 1))
def jumpV (B k : Nat) : Int := ((jumpQ k).bind fun q => (floatBits .mul .f64 (floatOfInt .f64 (B : Int)) q).bind fun p => floatToIntVal .f64 p .i64).getD 0
def floorD (x : Nat) : Nat := FloatKind.f64.encode ((FloatKind.f64.decode x).integral .down)
theorem jump_ex {B k : Nat} (h0 : 1 ≤ B) (h1 : B ≤ 1000000) (hk : k < 2147483648) :
    ∃ q p m e, floatBits .quo .f64 4746794007248502784 (floatOfInt .f64 ((k : Int) + 1)) = some q ∧ floatBits .mul .f64 (floatOfInt .f64 (B : Int)) q = some p ∧ FloatKind.f64.decode p = .number false m e ∧
      floatToIntVal .f64 p .i64 = some (jumpV B k) ∧ floatToIntVal .f64 (floorD p) .i64 = some (jumpV B k) ∧ (B : Int) ≤ jumpV B k := by
  obtain ⟨n, j, d1, d2, d3, d4⟩ := int_both64 (n := (k : Int) + 1) (by omega) (by omega)
  obtain ⟨q, m2, e2, q1, q2, q3, q4, q5⟩ := quo_ge d1 d2 d3 d4
  have hlB : B.log2 < 20 := (Nat.log2_lt (by omega)).2 (by have : 2 ^ 20 = 1048576 := rfl; omega)
  have hfi : floatOfInt .f64 (B : Int) = FloatKind.f64.encode (.number false B 0) := by
    have e : floatOfInt .f64 (B : Int) = FloatKind.f64.encode (.number (decide ((B : Int) < 0)) (B : Int).natAbs 0) := rfl
    rw [e, decide_eq_false (by omega), Int.natAbs_natCast]
  have hdB := decode_int_ (s := false) (q := B) (by omega) (by omega)
  rw [← hfi] at hdB
  have hmul : floatBits .mul .f64 (floatOfInt .f64 (B : Int)) q = some (FloatKind.f64.format.nearest false (B * 2 ^ (52 - B.log2) * m2) (0 - ((52 - B.log2 : Nat) : Int) + e2)) := by
    have e : floatBits .mul .f64 (floatOfInt .f64 (B : Int)) q = ((FloatKind.f64.decode (floatOfInt .f64 (B : Int))).product (FloatKind.f64.decode q)).map FloatKind.f64.format.write := rfl
    rw [e, hdB, q2]; rfl
  have he2 : e2 ≤ 31 := by
    rcases q5 with h | ⟨h, _⟩
    · exact absurd h q3
    · exact h
  obtain ⟨l1, l2⟩ := log2_bounds q3
  have hbB : bd (B * 2 ^ (52 - B.log2)) (0 - ((52 - B.log2 : Nat) : Int)) 20 := by
    refine .inr ⟨by omega, ?_⟩
    calc B * 2 ^ (52 - B.log2) ≤ 2 ^ 20 * 2 ^ (52 - B.log2) := Nat.mul_le_mul_right _ (by have : 2 ^ 20 = 1048576 := rfl; omega)
      _ = _ := by rw [← Nat.pow_add]; congr 1; omega
  have hne : B * 2 ^ (52 - B.log2) * m2 ≠ 0 := Nat.mul_ne_zero (Nat.mul_ne_zero (by omega) (Nat.pos_iff_ne_zero.1 (Nat.two_pow_pos _))) q3
  have hge : B * 2 ^ (-(0 - ((52 - B.log2 : Nat) : Int) + e2)).toNat ≤ B * 2 ^ (52 - B.log2) * m2 := by
    rw [Nat.mul_assoc]
    refine Nat.mul_le_mul_left B ?_
    calc 2 ^ (-(0 - ((52 - B.log2 : Nat) : Int) + e2)).toNat ≤ 2 ^ ((52 - B.log2) + m2.log2) := Nat.pow_le_pow_right (by omega) (by omega)
      _ = 2 ^ (52 - B.log2) * 2 ^ m2.log2 := by rw [Nat.pow_add]
      _ ≤ _ := Nat.mul_le_mul_left _ l1
  obtain ⟨m, e, g1, g2, g3⟩ := nearest_ge (B := B) (by omega) hne hge h0 (bd_mul hbB q5)
  obtain ⟨z, z1, z2, z3⟩ := trunc_ge g1 g2 h0 g3
  have hv : jumpV B k = z := by unfold jumpV jumpQ; rw [q1, Option.bind_some, hmul, Option.bind_some, z1]; rfl
  refine ⟨q, _, m, e, q1, hmul, g1, ?_, ?_, ?_⟩
  · rw [hv]; exact z1
  · rw [hv]; exact z3
  · rw [hv]; exact z2
end Go.Proofs.Ytibldgcfplpdkaa.Flo
