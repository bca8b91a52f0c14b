/- Jumps: a product of floats that is at least a whole number, cut off. No program. -/
import Derived.Test.YtfbapbgiegploaaCfp
namespace Go.Proofs.Ytfbapbgiegploaa.Flo
open Go Go.RowKit
set_option linter.unusedVariables false
theorem cut_toward_ (s : Bool) (n d : Nat) : Ieee.Toward.zero.cut s n d = n / 2 ^ d := by
  unfold Ieee.Toward.cut
  simp only [Nat.shiftLeft_eq, Nat.one_mul, Bool.toNat_false, Nat.add_zero]
  by_cases h : d ≤ n.log2 + 2
  · rw [Nat.min_eq_left h]
  · rw [Nat.min_eq_right (by omega)]
    have h1 : n < 2 ^ (n.log2 + 1) := Nat.lt_log2_self
    have h2 : n < 2 ^ (n.log2 + 2) := Nat.lt_trans h1 (Nat.pow_lt_pow_right (by omega) (by omega))
    have h3 : n < 2 ^ d := Nat.lt_trans h2 (Nat.pow_lt_pow_right (by omega) (by omega))
    rw [Nat.div_eq_of_lt h2, Nat.div_eq_of_lt h3]

theorem decode_int_ {s : Bool} {q : Nat} (h0 : q ≠ 0) (hq : q < 4503599627370496) :
    FloatKind.f64.decode (FloatKind.f64.encode (.number s q 0)) = .number s (q * 2 ^ (52 - q.log2)) (0 - (52 - q.log2 : Nat)) := by
  have hl : q.log2 < 52 := (Nat.log2_lt h0).2 hq
  obtain ⟨b1, b2⟩ := shl_bounds h0 (n := 52) (by omega)
  have henc : FloatKind.f64.encode (.number s q 0) = Ieee.double.word s ((q.log2 + 1022) * 4503599627370496 + q * 2 ^ (52 - q.log2)) := by
    simp only [FloatKind.encode, FloatKind.format, Ieee.Format.write]
    rw [nearest_rung Ieee.double s 0 h0]
    have hr : rungOf Ieee.double s q 0 = (q.log2 + 1022) * 4503599627370496 + q * 2 ^ (52 - q.log2) := by
      unfold rungOf
      simp only [double_least, double_bin]
      have hlast : max (0 + (q.log2 : Int) - (Ieee.double.fractionBits : Int)) (-1074) = (q.log2 : Int) - 52 := by
        show max (0 + (q.log2 : Int) - 52) (-1074) = _
        omega
      rw [hlast]
      have e1 : (0 - ((q.log2 : Int) - 52)).toNat = 52 - q.log2 := by omega
      have e2 : ((q.log2 : Int) - 52 - 0).toNat = 0 := by omega
      have e3 : ((q.log2 : Int) - 52 - (-1074)).toNat = q.log2 + 1022 := by omega
      rw [e1, e2, e3, cut_zero, Nat.shiftLeft_eq]
    rw [hr, Nat.min_eq_left]
    rw [double_inf]
    have b2' : q * 2 ^ (52 - q.log2) < 9007199254740992 := b2
    omega
  rw [henc]
  generalize hk : q * 2 ^ (52 - q.log2) = k at *
  have b1' : 4503599627370496 ≤ k := b1
  have b2' : k < 9007199254740992 := b2
  generalize q.log2 = j at *
  show Ieee.double.read _ = _
  rw [read_wordf]
  · rw [if_neg (by rw [double_bin]; omega), double_bin, double_least]
    have a1 : ((j + 1022) * 4503599627370496 + k) % 4503599627370496 = k - 4503599627370496 := by omega
    have a2 : ((j + 1022) * 4503599627370496 + k) / 4503599627370496 = j + 1022 + 1 := by omega
    rw [a1, a2]
    have c1 : 4503599627370496 + (k - 4503599627370496) = k := by omega
    have c2 : (-1074 : Int) + ((j + 1022 + 1 - 1 : Nat) : Int) = 0 - ((52 - j : Nat) : Int) := by omega
    rw [c1, c2]
  · rw [double_inf]; omega

theorem cut_down_pos (n d : Nat) : Ieee.Toward.down.cut false n d = n / 2 ^ d := by
  rw [← cut_toward_ false n d]
  unfold Ieee.Toward.cut
  simp
def geB (m : Nat) (e : Int) (B : Nat) : Prop := B ≤ m <<< e.toNat / 2 ^ (-e).toNat
theorem nearest_ge {M : Nat} {E : Int} {B : Nat} (hE : E ≤ 0) (h0 : M ≠ 0) (h : B * 2 ^ (-E).toNat ≤ M) (hB : 1 ≤ B) (hb : bd M E 51) :
    ∃ m e, FloatKind.f64.decode (FloatKind.f64.format.nearest false M E) = .number false m e ∧ geB m e B ∧ bd m e 51 := by
  have hl1 : (-E).toNat ≤ M.log2 := (Nat.le_log2 h0).2 (Nat.le_trans (by calc 2 ^ (-E).toNat = 1 * 2 ^ (-E).toNat := (Nat.one_mul _).symm
    _ ≤ B * 2 ^ (-E).toNat := Nat.mul_le_mul_right _ hB) h)
  have hl2 := bd_log h0 hb
  obtain ⟨r1, r2⟩ := f64_room (t := 51) (by omega) (by omega)
  obtain ⟨m0, e0, g1, g2⟩ := nearest_bd FloatKind.f64.format false hb r1 r2
  have hr := rung_le FloatKind.f64.format false h0 hb r1
  have hi : rungOf Ieee.double false M E < Ieee.double.infRung := Nat.lt_of_le_of_lt hr r2
  obtain ⟨l1, l2⟩ := log2_bounds h0
  have key : ∃ m' e', FloatKind.f64.format.read (FloatKind.f64.format.nearest false M E) = .number false m' e' ∧ geB m' e' B := by
    show ∃ m' e', Ieee.double.read (Ieee.double.nearest false M E) = _ ∧ _
    rw [nearest_rung Ieee.double false E h0, Nat.min_eq_left (Nat.le_of_lt hi)]
    rw [read_wordf Ieee.double false _ hi]
    have hf : (Ieee.double.fractionBits : Int) = 52 := rfl
    unfold rungOf
    simp only [double_least, double_bin, hf]
    generalize M.log2 = lg at *
    rw [Int.max_eq_left (by omega)]
    generalize hla : E + (lg : Int) - 52 = last at *
    have hQ1 := cut_ge_ false (M <<< (E - last).toNat) (last - E).toNat
    have hQ2 := cut_le false (M <<< (E - last).toNat) (last - E).toNat
    generalize Ieee.Toward.even.cut false (M <<< (E - last).toNat) (last - E).toNat = kept at *
    have hQ3 : 4503599627370496 ≤ M <<< (E - last).toNat / 2 ^ (last - E).toNat := by
      rw [Nat.shiftLeft_eq, Nat.le_div_iff_mul_le (Nat.two_pow_pos _)]
      calc 4503599627370496 * 2 ^ (last - E).toNat = 2 ^ 52 * 2 ^ (last - E).toNat := rfl
        _ = 2 ^ lg * 2 ^ (E - last).toNat := by rw [← Nat.pow_add, ← Nat.pow_add]; congr 1; omega
        _ ≤ _ := Nat.mul_le_mul_right _ l1
    have hQ4 : M <<< (E - last).toNat / 2 ^ (last - E).toNat < 9007199254740992 := by
      rw [Nat.shiftLeft_eq, Nat.div_lt_iff_lt_mul (Nat.two_pow_pos _)]
      calc M * 2 ^ (E - last).toNat < 2 ^ (lg + 1) * 2 ^ (E - last).toNat := Nat.mul_lt_mul_of_pos_right l2 (Nat.two_pow_pos _)
        _ = 2 ^ 53 * 2 ^ (last - E).toNat := by rw [← Nat.pow_add, ← Nat.pow_add]; congr 1; omega
        _ = 9007199254740992 * 2 ^ (last - E).toNat := rfl
    have hQ5 : B * 2 ^ (-last).toNat ≤ M <<< (E - last).toNat / 2 ^ (last - E).toNat := by
      rw [Nat.shiftLeft_eq, Nat.le_div_iff_mul_le (Nat.two_pow_pos _)]
      calc B * 2 ^ (-last).toNat * 2 ^ (last - E).toNat = B * 2 ^ (-E).toNat * 2 ^ (E - last).toNat := by rw [Nat.mul_assoc, Nat.mul_assoc, ← Nat.pow_add, ← Nat.pow_add]; congr 2; omega
        _ ≤ _ := Nat.mul_le_mul_right _ h
    generalize M <<< (E - last).toNat / 2 ^ (last - E).toNat = Q at *
    have ha : (last - (-1074)).toNat = (last + 1074).toNat := by congr 1
    rw [ha]
    generalize hA : (last + 1074).toNat = A at *
    rw [if_neg (by omega)]
    by_cases hk : kept < 9007199254740992
    · have e1 : (A * 4503599627370496 + kept) % 4503599627370496 = kept - 4503599627370496 := by omega
      have e2 : (A * 4503599627370496 + kept) / 4503599627370496 - 1 = A := by omega
      rw [e1, e2]
      refine ⟨_, _, rfl, ?_⟩
      have e3 : 4503599627370496 + (kept - 4503599627370496) = kept := by omega
      have e4 : (-1074 : Int) + (A : Int) = last := by omega
      rw [e3, e4]
      unfold geB
      have e5 : last.toNat = 0 := by omega
      rw [e5, Nat.shiftLeft_zero, Nat.le_div_iff_mul_le (Nat.two_pow_pos _)]
      exact Nat.le_trans hQ5 hQ1
    · have hk2 : kept = 9007199254740992 := by omega
      have e1 : (A * 4503599627370496 + kept) % 4503599627370496 = 0 := by omega
      have e2 : (A * 4503599627370496 + kept) / 4503599627370496 - 1 = A + 1 := by omega
      rw [e1, e2]
      refine ⟨_, _, rfl, ?_⟩
      have e4 : (-1074 : Int) + ((A + 1 : Nat) : Int) = last + 1 := by omega
      rw [Nat.add_zero, e4]
      unfold geB
      have e5 : (last + 1).toNat = 0 := by omega
      rw [e5, Nat.shiftLeft_zero, Nat.le_div_iff_mul_le (Nat.two_pow_pos _)]
      have e6 : (-last).toNat = (-(last + 1)).toNat + 1 := by omega
      rw [e6, Nat.pow_succ, ← Nat.mul_assoc] at hQ5
      generalize B * 2 ^ (-(last + 1)).toNat = z at *
      omega
  obtain ⟨m', e', k1, k2⟩ := key
  rw [g1] at k1
  injection k1 with i1 i2 i3
  subst i2; subst i3
  exact ⟨m0, e0, g1, k2, g2⟩
/-- a number that is at least a whole number, cut off, and the same of its floor -/
theorem trunc_ge {x : Nat} {m B : Nat} {e : Int} (hd : FloatKind.f64.decode x = .number false m e) (hg : geB m e B) (hB : 1 ≤ B) (hb : bd m e (51 : Nat)) :
    ∃ z : Int, floatToIntVal .f64 x .i64 = some z ∧ (B : Int) ≤ z ∧ floatToIntVal .f64 (FloatKind.f64.encode ((FloatKind.f64.decode x).integral .down)) .i64 = some z := by
  have hw := whole_bdt hb
  have h51 : 2 ^ 51 = 2251799813685248 := rfl
  rw [h51] at hw
  unfold geB at hg
  have ht : (FloatKind.f64.decode x).toInt .zero = some ((m <<< e.toNat / 2 ^ (-e).toNat : Nat) : Int) := by
    rw [hd]
    unfold Ieee.Datum.toInt Ieee.Datum.integral
    simp only [cut_toward_]
    show some (Ieee.signed false _ 0) = _
    unfold Ieee.signed
    rw [Nat.shiftLeft_zero]; rfl
  have hdn : (FloatKind.f64.decode x).integral .down = .number false (m <<< e.toNat / 2 ^ (-e).toNat) 0 := by
    rw [hd]
    unfold Ieee.Datum.integral
    simp only [cut_down_pos]
  rw [hdn]
  generalize m <<< e.toNat / 2 ^ (-e).toNat = Z at *
  have e1 : IntKind.i64.min = -9223372036854775808 := rfl
  have e2 : IntKind.i64.max = 9223372036854775807 := rfl
  have hd2 := decode_int_ (s := false) (q := Z) (by omega) (by omega)
  have hl : Z.log2 < 52 := (Nat.log2_lt (by omega)).2 (by have : 2 ^ 52 = 4503599627370496 := rfl; omega)
  have ht2 : (FloatKind.f64.decode (FloatKind.f64.encode (.number false Z 0))).toInt .zero = some (Z : Int) := by
    rw [hd2]
    unfold Ieee.Datum.toInt Ieee.Datum.integral
    simp only [cut_toward_]
    have e3 : ((0 : Int) - ((52 - Z.log2 : Nat) : Int)).toNat = 0 := by omega
    have e4 : (-((0 : Int) - ((52 - Z.log2 : Nat) : Int))).toNat = 52 - Z.log2 := by omega
    rw [e3, e4, Nat.shiftLeft_zero, Nat.mul_div_cancel _ (Nat.two_pow_pos _)]
    show some (Ieee.signed false Z 0) = _
    unfold Ieee.signed
    rw [Nat.shiftLeft_zero]; rfl
  refine ⟨(Z : Int), ?_, by omega, ?_⟩
  · unfold floatToIntVal
    rw [ht, e1, e2]
    simp only
    rw [if_pos (by omega)]
  · unfold floatToIntVal
    rw [ht2, e1, e2]
    simp only
    rw [if_pos (by omega)]
end Go.Proofs.Ytfbapbgiegploaa.Flo
