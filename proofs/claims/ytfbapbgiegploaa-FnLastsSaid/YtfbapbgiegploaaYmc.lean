/- Exact arithmetic on small dyadic numbers. No program. (by wip/tools/gen_dy.py) -/
import Derived.Test.YtfbapbgiegploaaJmq
import Derived.Test.YtfbapbgiegploaaSms
import Derived.Test.YtfbapbgiegploaaYmb
namespace Go.Proofs.Ytfbapbgiegploaa.Flo
open Go Go.RowKit
set_option linter.unusedVariables false
theorem log2_mul_pow {k d : Nat} (h : k ≠ 0) : (k * 2 ^ d).log2 = k.log2 + d := by
  obtain ⟨b1, b2⟩ := log2_bounds h
  have hn : k * 2 ^ d ≠ 0 := Nat.mul_ne_zero h (Nat.ne_of_gt (Nat.two_pow_pos _))
  have h1 : k.log2 + d ≤ (k * 2 ^ d).log2 := (Nat.le_log2 hn).2 (by rw [Nat.pow_add]; exact Nat.mul_le_mul_right _ b1)
  have h2 : (k * 2 ^ d).log2 < k.log2 + d + 1 := (Nat.log2_lt hn).2 (by
    rw [show k.log2 + d + 1 = (k.log2 + 1) + d by omega, Nat.pow_add]
    exact Nat.mul_lt_mul_of_pos_right b2 (Nat.two_pow_pos _))
  omega

theorem near_dy32 (s : Bool) {k d : Nat} {e : Int} (h0 : k ≠ 0) (hk : k < 16777216) (h1 : -60 ≤ e + d) (h2 : e + d ≤ 60) :
    Ieee.single.read (Ieee.single.nearest s (k * 2 ^ d) e) = .number s (k * 2 ^ (23 - k.log2)) (e + d - ((23 - k.log2 : Nat) : Int)) := by
  have hl : k.log2 < 24 := (Nat.log2_lt h0).2 hk
  obtain ⟨b1, b2⟩ := shl_bounds h0 (n := 23) (by omega)
  have hn : k * 2 ^ d ≠ 0 := Nat.mul_ne_zero h0 (Nat.ne_of_gt (Nat.two_pow_pos _))
  rw [nearest_rung Ieee.single s e hn]
  have hr : rungOf Ieee.single s (k * 2 ^ d) e = (e + d + k.log2 - 23 + 149).toNat * 8388608 + k * 2 ^ (23 - k.log2) := by
    unfold rungOf
    simp only [single_least, single_bin]
    rw [log2_mul_pow h0]
    have hlast : max (e + ((k.log2 + d : Nat) : Int) - (Ieee.single.fractionBits : Int)) (-149) = e + d + k.log2 - 23 := by
      show max (e + ((k.log2 + d : Nat) : Int) - 23) (-149) = _
      omega
    rw [hlast]
    have e3 : (e + d + (k.log2 : Int) - 23 - (-149)).toNat = (e + d + k.log2 - 23 + 149).toNat := by omega
    rw [e3]
    congr 1
    by_cases hc : d + k.log2 ≤ 23
    · have e1 : (e - (e + d + (k.log2 : Int) - 23)).toNat = 23 - k.log2 - d := by omega
      have e2 : (e + d + (k.log2 : Int) - 23 - e).toNat = 0 := by omega
      rw [e1, e2, cut_zero, Nat.shiftLeft_eq, Nat.mul_assoc, ← Nat.pow_add]
      congr 2; omega
    · have e1 : (e - (e + d + (k.log2 : Int) - 23)).toNat = 0 := by omega
      have e2 : (e + d + (k.log2 : Int) - 23 - e).toNat = d + k.log2 - 23 := by omega
      rw [e1, e2, Nat.shiftLeft_eq, Nat.pow_zero, Nat.mul_one]
      have e4 : k * 2 ^ d = (k * 2 ^ (23 - k.log2)) * 2 ^ (d + k.log2 - 23) := by
        rw [Nat.mul_assoc, ← Nat.pow_add]; congr 2; omega
      rw [e4, cut_exact]
  rw [hr]
  generalize hK : k * 2 ^ (23 - k.log2) = K at *
  have b1' : 8388608 ≤ K := b1
  have b2' : K < 16777216 := b2
  generalize k.log2 = j at *
  have hin : (e + d + (j : Int) - 23 + 149).toNat * 8388608 + K < Ieee.single.infRung := by
    have : (e + d + (j : Int) - 23 + 149).toNat ≤ 149 + 62 := by omega
    have h9 : Ieee.single.infRung = 2139095040 := by decide
    rw [h9]; omega
  rw [Nat.min_eq_left (Nat.le_of_lt hin), read_wordf _ _ _ hin]
  rw [if_neg (by rw [single_bin]; omega), single_bin, single_least]
  have a1 : ((e + d + (j : Int) - 23 + 149).toNat * 8388608 + K) % 8388608 = K - 8388608 := by omega
  have a2 : ((e + d + (j : Int) - 23 + 149).toNat * 8388608 + K) / 8388608 = (e + d + (j : Int) - 23 + 149).toNat + 1 := by omega
  rw [a1, a2]
  have c1 : 8388608 + (K - 8388608) = K := by omega
  have c2 : (-149 : Int) + (((e + d + (j : Int) - 23 + 149).toNat + 1 - 1 : Nat) : Int) = e + d - ((23 - j : Nat) : Int) := by omega
  rw [c1, c2]

theorem near_dy64 (s : Bool) {k d : Nat} {e : Int} (h0 : k ≠ 0) (hk : k < 9007199254740992) (h1 : -60 ≤ e + d) (h2 : e + d ≤ 60) :
    Ieee.double.read (Ieee.double.nearest s (k * 2 ^ d) e) = .number s (k * 2 ^ (52 - k.log2)) (e + d - ((52 - k.log2 : Nat) : Int)) := by
  have hl : k.log2 < 53 := (Nat.log2_lt h0).2 hk
  obtain ⟨b1, b2⟩ := shl_bounds h0 (n := 52) (by omega)
  have hn : k * 2 ^ d ≠ 0 := Nat.mul_ne_zero h0 (Nat.ne_of_gt (Nat.two_pow_pos _))
  rw [nearest_rung Ieee.double s e hn]
  have hr : rungOf Ieee.double s (k * 2 ^ d) e = (e + d + k.log2 - 52 + 1074).toNat * 4503599627370496 + k * 2 ^ (52 - k.log2) := by
    unfold rungOf
    simp only [double_least, double_bin]
    rw [log2_mul_pow h0]
    have hlast : max (e + ((k.log2 + d : Nat) : Int) - (Ieee.double.fractionBits : Int)) (-1074) = e + d + k.log2 - 52 := by
      show max (e + ((k.log2 + d : Nat) : Int) - 52) (-1074) = _
      omega
    rw [hlast]
    have e3 : (e + d + (k.log2 : Int) - 52 - (-1074)).toNat = (e + d + k.log2 - 52 + 1074).toNat := by omega
    rw [e3]
    congr 1
    by_cases hc : d + k.log2 ≤ 52
    · have e1 : (e - (e + d + (k.log2 : Int) - 52)).toNat = 52 - k.log2 - d := by omega
      have e2 : (e + d + (k.log2 : Int) - 52 - e).toNat = 0 := by omega
      rw [e1, e2, cut_zero, Nat.shiftLeft_eq, Nat.mul_assoc, ← Nat.pow_add]
      congr 2; omega
    · have e1 : (e - (e + d + (k.log2 : Int) - 52)).toNat = 0 := by omega
      have e2 : (e + d + (k.log2 : Int) - 52 - e).toNat = d + k.log2 - 52 := by omega
      rw [e1, e2, Nat.shiftLeft_eq, Nat.pow_zero, Nat.mul_one]
      have e4 : k * 2 ^ d = (k * 2 ^ (52 - k.log2)) * 2 ^ (d + k.log2 - 52) := by
        rw [Nat.mul_assoc, ← Nat.pow_add]; congr 2; omega
      rw [e4, cut_exact]
  rw [hr]
  generalize hK : k * 2 ^ (52 - k.log2) = K at *
  have b1' : 4503599627370496 ≤ K := b1
  have b2' : K < 9007199254740992 := b2
  generalize k.log2 = j at *
  have hin : (e + d + (j : Int) - 52 + 1074).toNat * 4503599627370496 + K < Ieee.double.infRung := by
    have : (e + d + (j : Int) - 52 + 1074).toNat ≤ 1074 + 62 := by omega
    have h9 : Ieee.double.infRung = 9218868437227405312 := by decide
    rw [h9]; omega
  rw [Nat.min_eq_left (Nat.le_of_lt hin), read_wordf _ _ _ hin]
  rw [if_neg (by rw [double_bin]; omega), double_bin, double_least]
  have a1 : ((e + d + (j : Int) - 52 + 1074).toNat * 4503599627370496 + K) % 4503599627370496 = K - 4503599627370496 := by omega
  have a2 : ((e + d + (j : Int) - 52 + 1074).toNat * 4503599627370496 + K) / 4503599627370496 = (e + d + (j : Int) - 52 + 1074).toNat + 1 := by omega
  rw [a1, a2]
  have c1 : 4503599627370496 + (K - 4503599627370496) = K := by omega
  have c2 : (-1074 : Int) + (((e + d + (j : Int) - 52 + 1074).toNat + 1 - 1 : Nat) : Int) = e + d - ((52 - j : Nat) : Int) := by omega
  rw [c1, c2]
end Go.Proofs.Ytfbapbgiegploaa.Flo
/- Exact arithmetic on small dyadic numbers: sums, differences, halves, at both formats. No program. (by wip/tools/gen_dyg.py) -/
namespace Go.Proofs.Ytfbapbgiegploaa.Flo
open Go Go.RowKit
set_option linter.unusedVariables false
/-- the datum is z / 2 ^ i; its zero has the sign +, if it is told -/
structure DyD (strict : Bool) (d : Ieee.Datum) (z : Int) (i : Nat) : Prop where
  ex : ∃ s m e, d = .number s m e ∧ (z = 0 → m = 0 ∧ (strict = true → s = false)) ∧ (z ≠ 0 → -90 ≤ e ∧ e ≤ 60 ∧ Ieee.signed s m (e + 100).toNat = z * ((2 ^ (100 - i) : Nat) : Int))
theorem DyD.weak {d : Ieee.Datum} {z : Int} {i : Nat} (h : DyD true d z i) : DyD false d z i := by
  obtain ⟨s, m, e, h1, h2, h3⟩ := h.ex
  exact ⟨s, m, e, h1, fun hz => ⟨(h2 hz).1, fun h => by cases h⟩, h3⟩
theorem signed_absD (s : Bool) (m u : Nat) : (Ieee.signed s m u).natAbs = m * 2 ^ u := by
  unfold Ieee.signed
  rw [Nat.shiftLeft_eq]
  cases s
  · show (((m * 2 ^ u : Nat)) : Int).natAbs = _
    exact Int.natAbs_natCast _
  · show (-(((m * 2 ^ u : Nat)) : Int)).natAbs = _
    rw [Int.natAbs_neg]; exact Int.natAbs_natCast _
theorem signed_sign {s : Bool} {m u : Nat} (h : m ≠ 0) : decide (Ieee.signed s m u < 0) = s := by
  have hp : 0 < m * 2 ^ u := Nat.mul_pos (Nat.pos_of_ne_zero h) (Nat.two_pow_pos _)
  unfold Ieee.signed
  rw [Nat.shiftLeft_eq]
  cases s
  · simp only [if_neg (show ¬ false = true by decide)]; exact decide_eq_false (by omega)
  · simp only [if_pos]; exact decide_eq_true (by omega)
theorem signed_zero (s : Bool) (u : Nat) : Ieee.signed s 0 u = 0 := by unfold Ieee.signed; rw [Nat.shiftLeft_eq]; cases s <;> simp
theorem signed_of {s : Bool} {t : Int} (hs : s = decide (t < 0)) (u : Nat) : Ieee.signed s t.natAbs u = t * ((2 ^ u : Nat) : Int) := by
  unfold Ieee.signed
  rw [Nat.shiftLeft_eq]
  subst hs
  by_cases h : t < 0
  · rw [if_pos (decide_eq_true h), Int.natCast_mul, show ((t.natAbs : Nat) : Int) = -t by omega, Int.neg_mul, Int.neg_neg]
  · rw [if_neg (by rw [decide_eq_false h]; decide), Int.natCast_mul, show ((t.natAbs : Nat) : Int) = t by omega]
theorem DyD.opp {d : Ieee.Datum} {z : Int} {i : Nat} {b : Bool} (h : DyD b d z i) : DyD false d.opposite (-z) i := by
  obtain ⟨s, m, e, rfl, h2, h3⟩ := h.ex
  refine ⟨!s, m, e, rfl, fun hz => ⟨(h2 (by omega)).1, fun h => by cases h⟩, fun hz => ?_⟩
  obtain ⟨a, b, c⟩ := h3 (by omega)
  refine ⟨a, b, ?_⟩
  rw [Int.neg_mul, ← c]
  unfold Ieee.signed
  cases s <;> simp
theorem two_pow_cast_mul (a b : Nat) : ((2 ^ (a + b) : Nat) : Int) = ((2 ^ a : Nat) : Int) * ((2 ^ b : Nat) : Int) := by rw [Nat.pow_add, Int.natCast_mul]

theorem write_dy32 {s : Bool} {m d : Nat} {e : Int} {z : Int} {i : Nat} (hz : z ≠ 0) (hb : z.natAbs < 16777216) (hi : i ≤ 30) (e0 : -99 ≤ e) (e1 : e ≤ 60) (h : Ieee.signed s m (e + 100).toNat = z * ((2 ^ (100 - i) : Nat) : Int)) :
    DyD true (Ieee.single.read (Ieee.single.nearest s (m * 2 ^ d) (e - d))) z i := by
  have habs := congrArg Int.natAbs h
  rw [signed_absD, Int.natAbs_mul, Int.natAbs_natCast] at habs
  have hm : m ≠ 0 := by
    intro hm; subst hm
    rw [Nat.zero_mul] at habs
    have := Nat.mul_pos (show 0 < z.natAbs by omega) (Nat.two_pow_pos (100 - i))
    omega
  have hs : s = decide (z < 0) := by
    rw [← signed_sign (s := s) (u := (e + 100).toNat) hm, h]
    have hp : (0 : Int) < ((2 ^ (100 - i) : Nat) : Int) := by have := Nat.two_pow_pos (100 - i); omega
    by_cases hz0 : z < 0
    · rw [decide_eq_true hz0, decide_eq_true (Int.mul_neg_of_neg_of_pos hz0 hp)]
    · rw [decide_eq_false hz0, decide_eq_false (by have := Int.mul_nonneg (show 0 ≤ z by omega) (Int.le_of_lt hp); omega)]
  have key : ∀ (K : Nat) (E : Int), -30 ≤ E → E ≤ 60 → K ≠ 0 → K < 16777216 → Ieee.single.read (Ieee.single.nearest s (m * 2 ^ d) (e - d)) = .number s (K * 2 ^ (23 - K.log2)) (E - ((23 - K.log2 : Nat) : Int)) → K * 2 ^ (E + 100).toNat = z.natAbs * 2 ^ (100 - i) → DyD true (Ieee.single.read (Ieee.single.nearest s (m * 2 ^ d) (e - d))) z i := by
    intro K E E0 E1 hK hK2 hr hv
    have hl : K.log2 < 24 := (Nat.log2_lt hK).2 hK2
    refine ⟨s, _, _, hr, fun h => absurd h hz, fun _ => ⟨by omega, by omega, ?_⟩⟩
    have e5 : Ieee.signed s (K * 2 ^ (23 - K.log2)) (E - ((23 - K.log2 : Nat) : Int) + 100).toNat = Ieee.signed s K (E + 100).toNat := by
      unfold Ieee.signed
      rw [Nat.shiftLeft_eq, Nat.shiftLeft_eq, Nat.mul_assoc, ← Nat.pow_add, show 23 - K.log2 + (E - ((23 - K.log2 : Nat) : Int) + 100).toNat = (E + 100).toNat by omega]
    rw [e5]
    unfold Ieee.signed
    rw [Nat.shiftLeft_eq, hv]
    by_cases hz0 : z < 0
    · rw [if_pos (by rw [hs]; exact decide_eq_true hz0), Int.natCast_mul, show ((z.natAbs : Nat) : Int) = -z by omega, Int.neg_mul, Int.neg_neg]
    · rw [if_neg (by rw [hs, decide_eq_false hz0]; decide), Int.natCast_mul, show ((z.natAbs : Nat) : Int) = z by omega]
  by_cases hc : (e + 100).toNat ≤ 100 - i
  · obtain ⟨r, hr⟩ : ∃ r, 100 - i = (e + 100).toNat + r := ⟨100 - i - (e + 100).toNat, by omega⟩
    have hmk : m = z.natAbs * 2 ^ r := by
      rw [hr, Nat.add_comm, Nat.pow_add, ← Nat.mul_assoc] at habs
      exact Nat.eq_of_mul_eq_mul_right (Nat.two_pow_pos _) habs
    have hmd : m * 2 ^ d = z.natAbs * 2 ^ (r + d) := by rw [hmk, Nat.mul_assoc, ← Nat.pow_add]
    refine key z.natAbs (-(i : Int)) (by omega) (by omega) (by omega) hb ?_ (by congr 2; omega)
    rw [hmd, near_dy32 s (show z.natAbs ≠ 0 by omega) (show z.natAbs < 16777216 by omega) (by omega) (by omega)]
    congr 1; omega
  · obtain ⟨r, hr⟩ : ∃ r, (e + 100).toNat = 100 - i + r := ⟨(e + 100).toNat - (100 - i), by omega⟩
    have hmk : m * 2 ^ r = z.natAbs := by
      rw [hr, Nat.add_comm, Nat.pow_add, ← Nat.mul_assoc] at habs
      exact Nat.eq_of_mul_eq_mul_right (Nat.two_pow_pos _) habs
    have hml : m ≤ z.natAbs := by rw [← hmk]; exact Nat.le_mul_of_pos_right _ (Nat.two_pow_pos _)
    have hr24 : r < 24 := by
      have : 2 ^ r ≤ z.natAbs := by rw [← hmk]; exact Nat.le_mul_of_pos_left _ (Nat.pos_of_ne_zero hm)
      exact (Nat.pow_lt_pow_iff_right (by decide : 1 < 2)).1 (Nat.lt_of_le_of_lt this (by omega : z.natAbs < 2 ^ 24))
    refine key m e (by omega) (by omega) hm (by omega) ?_ habs
    rw [near_dy32 s hm (show m < 16777216 by omega) (by omega) (by omega)]
    congr 1; omega
theorem sum_dy32 {x : Nat} {u v : Int} {i : Nat} {dy : Ieee.Datum} (hx : DyD true (Ieee.single.read x) u i) (hy : DyD false dy v i) (hb : (u + v).natAbs < 16777216) (hi : i ≤ 30) :
    ∃ r, ((Ieee.single.read x).sum dy).map Ieee.single.write = some r ∧ DyD true (Ieee.single.read r) (u + v) i := by
  obtain ⟨s, m, e, hd1, z1, n1⟩ := hx.ex
  obtain ⟨t, n, g, rfl, z2, n2⟩ := hy.ex
  rw [hd1]
  refine ⟨_, rfl, ?_⟩
  show DyD true (Ieee.single.read (Ieee.single.nearest _ _ _)) _ _
  have zero : ∀ q : Int, DyD true (Ieee.single.read (Ieee.single.nearest false 0 q)) 0 i := fun q => by
    have hr : Ieee.single.read (Ieee.single.nearest false 0 q) = .number false 0 Ieee.single.leastPlace := by unfold Ieee.Format.nearest; rw [if_pos rfl]; decide
    exact ⟨false, 0, _, hr, fun _ => ⟨rfl, fun _ => rfl⟩, fun h => absurd rfl h⟩
  by_cases hu : u = 0
  · obtain ⟨hm0, hs0⟩ := z1 hu
    have hs0 := hs0 rfl
    subst hm0; subst hs0; subst hu
    rw [Int.zero_add] at hb ⊢
    rw [signed_zero, Int.zero_add]
    by_cases hv : v = 0
    · obtain ⟨hn0, _⟩ := z2 hv
      subst hn0; subst hv
      rw [signed_zero, if_pos rfl]
      exact zero _
    · obtain ⟨a1, a2, a3⟩ := n2 hv
      have hn : n ≠ 0 := by
        intro h; subst h; rw [signed_zero] at a3
        have hp : (0 : Int) < ((2 ^ (100 - i) : Nat) : Int) := by have := Nat.two_pow_pos (100 - i); omega
        rcases Int.mul_eq_zero.1 a3.symm with h | h <;> omega
      have hne : Ieee.signed t n (g - min e g).toNat ≠ 0 := by
        intro h
        have := congrArg Int.natAbs h
        rw [signed_absD] at this
        have := Nat.mul_pos (Nat.pos_of_ne_zero hn) (Nat.two_pow_pos (g - min e g).toNat)
        simp at *; omega
      rw [if_neg hne, signed_sign hn, signed_absD]
      have hg : min e g = g - ((g - min e g).toNat : Int) := by omega
      rw [show Ieee.single.nearest t (n * 2 ^ (g - min e g).toNat) (min e g) = Ieee.single.nearest t (n * 2 ^ (g - min e g).toNat) (g - ((g - min e g).toNat : Int)) from by rw [← hg]]
      exact write_dy32 hv hb hi (by omega) a2 a3
  · obtain ⟨b1, b2, b3⟩ := n1 hu
    have hm : m ≠ 0 := by
      intro h; subst h; rw [signed_zero] at b3
      have hp : (0 : Int) < ((2 ^ (100 - i) : Nat) : Int) := by have := Nat.two_pow_pos (100 - i); omega
      rcases Int.mul_eq_zero.1 b3.symm with h | h <;> omega
    by_cases hv : v = 0
    · obtain ⟨hn0, _⟩ := z2 hv
      subst hn0; subst hv
      rw [Int.add_zero] at hb ⊢
      rw [signed_zero, Int.add_zero]
      have hne : Ieee.signed s m (e - min e g).toNat ≠ 0 := by
        intro h
        have := congrArg Int.natAbs h
        rw [signed_absD] at this
        have := Nat.mul_pos (Nat.pos_of_ne_zero hm) (Nat.two_pow_pos (e - min e g).toNat)
        simp at *; omega
      rw [if_neg hne, signed_sign hm, signed_absD]
      have hg : min e g = e - ((e - min e g).toNat : Int) := by omega
      rw [show Ieee.single.nearest s (m * 2 ^ (e - min e g).toNat) (min e g) = Ieee.single.nearest s (m * 2 ^ (e - min e g).toNat) (e - ((e - min e g).toNat : Int)) from by rw [← hg]]
      exact write_dy32 hu hb hi (by omega) b2 b3
    · obtain ⟨a1, a2, a3⟩ := n2 hv
      have hn : n ≠ 0 := by
        intro h; subst h; rw [signed_zero] at a3
        have hp : (0 : Int) < ((2 ^ (100 - i) : Nat) : Int) := by have := Nat.two_pow_pos (100 - i); omega
        rcases Int.mul_eq_zero.1 a3.symm with h | h <;> omega
      obtain ⟨T, hT⟩ : ∃ T, Ieee.signed s m (e - min e g).toNat + Ieee.signed t n (g - min e g).toNat = T := ⟨_, rfl⟩
      rw [hT]
      have hbase : -90 ≤ min e g ∧ min e g ≤ 60 := by omega
      have hval : T * ((2 ^ (min e g + 100).toNat : Nat) : Int) = (u + v) * ((2 ^ (100 - i) : Nat) : Int) := by
        rw [← hT, Int.add_mul, ← signed_mul, ← signed_mul, Int.add_mul, ← b3, ← a3, show (e - min e g).toNat + (min e g + 100).toNat = (e + 100).toNat by omega, show (g - min e g).toNat + (min e g + 100).toNat = (g + 100).toNat by omega]
      have hp : (0 : Int) < ((2 ^ (100 - i) : Nat) : Int) := by have := Nat.two_pow_pos (100 - i); omega
      have hp2 : (0 : Int) < ((2 ^ (min e g + 100).toNat : Nat) : Int) := by have := Nat.two_pow_pos (min e g + 100).toNat; omega
      by_cases h0 : u + v = 0
      · have hT0 : T = 0 := by
          rw [h0, Int.zero_mul] at hval
          rcases Int.mul_eq_zero.1 hval with h | h
          · exact h
          · omega
        rw [hT0, if_pos rfl, h0]
        have hst : (s && t) = false := by
          have s1 := signed_sign (s := s) (u := (e + 100).toNat) hm
          have s2 := signed_sign (s := t) (u := (g + 100).toNat) hn
          rw [b3] at s1; rw [a3] at s2
          rcases Int.lt_or_lt_of_ne hu with h | h
          · rw [← s2, decide_eq_false (by have := Int.mul_nonneg (show 0 ≤ v by omega) (Int.le_of_lt hp); omega), Bool.and_false]
          · rw [← s1, decide_eq_false (by have := Int.mul_nonneg (show 0 ≤ u by omega) (Int.le_of_lt hp); omega), Bool.false_and]
        rw [hst]
        exact zero _
      · have hT0 : T ≠ 0 := by
          intro h; rw [h, Int.zero_mul] at hval
          rcases Int.mul_eq_zero.1 hval.symm with h | h <;> omega
        rw [if_neg hT0]
        have := write_dy32 (s := decide (T < 0)) (m := T.natAbs) (d := 0) (e := min e g) (z := u + v) (i := i) h0 hb hi (by omega) hbase.2 (by rw [signed_of rfl]; exact hval)
        rw [Nat.pow_zero, Nat.mul_one, Int.natCast_zero, Int.sub_zero] at this
        exact this

theorem write_dy64 {s : Bool} {m d : Nat} {e : Int} {z : Int} {i : Nat} (hz : z ≠ 0) (hb : z.natAbs < 16777216) (hi : i ≤ 30) (e0 : -99 ≤ e) (e1 : e ≤ 60) (h : Ieee.signed s m (e + 100).toNat = z * ((2 ^ (100 - i) : Nat) : Int)) :
    DyD true (Ieee.double.read (Ieee.double.nearest s (m * 2 ^ d) (e - d))) z i := by
  have habs := congrArg Int.natAbs h
  rw [signed_absD, Int.natAbs_mul, Int.natAbs_natCast] at habs
  have hm : m ≠ 0 := by
    intro hm; subst hm
    rw [Nat.zero_mul] at habs
    have := Nat.mul_pos (show 0 < z.natAbs by omega) (Nat.two_pow_pos (100 - i))
    omega
  have hs : s = decide (z < 0) := by
    rw [← signed_sign (s := s) (u := (e + 100).toNat) hm, h]
    have hp : (0 : Int) < ((2 ^ (100 - i) : Nat) : Int) := by have := Nat.two_pow_pos (100 - i); omega
    by_cases hz0 : z < 0
    · rw [decide_eq_true hz0, decide_eq_true (Int.mul_neg_of_neg_of_pos hz0 hp)]
    · rw [decide_eq_false hz0, decide_eq_false (by have := Int.mul_nonneg (show 0 ≤ z by omega) (Int.le_of_lt hp); omega)]
  have key : ∀ (K : Nat) (E : Int), -30 ≤ E → E ≤ 60 → K ≠ 0 → K < 16777216 → Ieee.double.read (Ieee.double.nearest s (m * 2 ^ d) (e - d)) = .number s (K * 2 ^ (52 - K.log2)) (E - ((52 - K.log2 : Nat) : Int)) → K * 2 ^ (E + 100).toNat = z.natAbs * 2 ^ (100 - i) → DyD true (Ieee.double.read (Ieee.double.nearest s (m * 2 ^ d) (e - d))) z i := by
    intro K E E0 E1 hK hK2 hr hv
    have hl : K.log2 < 24 := (Nat.log2_lt hK).2 hK2
    refine ⟨s, _, _, hr, fun h => absurd h hz, fun _ => ⟨by omega, by omega, ?_⟩⟩
    have e5 : Ieee.signed s (K * 2 ^ (52 - K.log2)) (E - ((52 - K.log2 : Nat) : Int) + 100).toNat = Ieee.signed s K (E + 100).toNat := by
      unfold Ieee.signed
      rw [Nat.shiftLeft_eq, Nat.shiftLeft_eq, Nat.mul_assoc, ← Nat.pow_add, show 52 - K.log2 + (E - ((52 - K.log2 : Nat) : Int) + 100).toNat = (E + 100).toNat by omega]
    rw [e5]
    unfold Ieee.signed
    rw [Nat.shiftLeft_eq, hv]
    by_cases hz0 : z < 0
    · rw [if_pos (by rw [hs]; exact decide_eq_true hz0), Int.natCast_mul, show ((z.natAbs : Nat) : Int) = -z by omega, Int.neg_mul, Int.neg_neg]
    · rw [if_neg (by rw [hs, decide_eq_false hz0]; decide), Int.natCast_mul, show ((z.natAbs : Nat) : Int) = z by omega]
  by_cases hc : (e + 100).toNat ≤ 100 - i
  · obtain ⟨r, hr⟩ : ∃ r, 100 - i = (e + 100).toNat + r := ⟨100 - i - (e + 100).toNat, by omega⟩
    have hmk : m = z.natAbs * 2 ^ r := by
      rw [hr, Nat.add_comm, Nat.pow_add, ← Nat.mul_assoc] at habs
      exact Nat.eq_of_mul_eq_mul_right (Nat.two_pow_pos _) habs
    have hmd : m * 2 ^ d = z.natAbs * 2 ^ (r + d) := by rw [hmk, Nat.mul_assoc, ← Nat.pow_add]
    refine key z.natAbs (-(i : Int)) (by omega) (by omega) (by omega) hb ?_ (by congr 2; omega)
    rw [hmd, near_dy64 s (show z.natAbs ≠ 0 by omega) (show z.natAbs < 9007199254740992 by omega) (by omega) (by omega)]
    congr 1; omega
  · obtain ⟨r, hr⟩ : ∃ r, (e + 100).toNat = 100 - i + r := ⟨(e + 100).toNat - (100 - i), by omega⟩
    have hmk : m * 2 ^ r = z.natAbs := by
      rw [hr, Nat.add_comm, Nat.pow_add, ← Nat.mul_assoc] at habs
      exact Nat.eq_of_mul_eq_mul_right (Nat.two_pow_pos _) habs
    have hml : m ≤ z.natAbs := by rw [← hmk]; exact Nat.le_mul_of_pos_right _ (Nat.two_pow_pos _)
    have hr24 : r < 24 := by
      have : 2 ^ r ≤ z.natAbs := by rw [← hmk]; exact Nat.le_mul_of_pos_left _ (Nat.pos_of_ne_zero hm)
      exact (Nat.pow_lt_pow_iff_right (by decide : 1 < 2)).1 (Nat.lt_of_le_of_lt this (by omega : z.natAbs < 2 ^ 24))
    refine key m e (by omega) (by omega) hm (by omega) ?_ habs
    rw [near_dy64 s hm (show m < 9007199254740992 by omega) (by omega) (by omega)]
    congr 1; omega
theorem sum_dy64 {x : Nat} {u v : Int} {i : Nat} {dy : Ieee.Datum} (hx : DyD true (Ieee.double.read x) u i) (hy : DyD false dy v i) (hb : (u + v).natAbs < 16777216) (hi : i ≤ 30) :
    ∃ r, ((Ieee.double.read x).sum dy).map Ieee.double.write = some r ∧ DyD true (Ieee.double.read r) (u + v) i := by
  obtain ⟨s, m, e, hd1, z1, n1⟩ := hx.ex
  obtain ⟨t, n, g, rfl, z2, n2⟩ := hy.ex
  rw [hd1]
  refine ⟨_, rfl, ?_⟩
  show DyD true (Ieee.double.read (Ieee.double.nearest _ _ _)) _ _
  have zero : ∀ q : Int, DyD true (Ieee.double.read (Ieee.double.nearest false 0 q)) 0 i := fun q => by
    have hr : Ieee.double.read (Ieee.double.nearest false 0 q) = .number false 0 Ieee.double.leastPlace := by unfold Ieee.Format.nearest; rw [if_pos rfl]; decide
    exact ⟨false, 0, _, hr, fun _ => ⟨rfl, fun _ => rfl⟩, fun h => absurd rfl h⟩
  by_cases hu : u = 0
  · obtain ⟨hm0, hs0⟩ := z1 hu
    have hs0 := hs0 rfl
    subst hm0; subst hs0; subst hu
    rw [Int.zero_add] at hb ⊢
    rw [signed_zero, Int.zero_add]
    by_cases hv : v = 0
    · obtain ⟨hn0, _⟩ := z2 hv
      subst hn0; subst hv
      rw [signed_zero, if_pos rfl]
      exact zero _
    · obtain ⟨a1, a2, a3⟩ := n2 hv
      have hn : n ≠ 0 := by
        intro h; subst h; rw [signed_zero] at a3
        have hp : (0 : Int) < ((2 ^ (100 - i) : Nat) : Int) := by have := Nat.two_pow_pos (100 - i); omega
        rcases Int.mul_eq_zero.1 a3.symm with h | h <;> omega
      have hne : Ieee.signed t n (g - min e g).toNat ≠ 0 := by
        intro h
        have := congrArg Int.natAbs h
        rw [signed_absD] at this
        have := Nat.mul_pos (Nat.pos_of_ne_zero hn) (Nat.two_pow_pos (g - min e g).toNat)
        simp at *; omega
      rw [if_neg hne, signed_sign hn, signed_absD]
      have hg : min e g = g - ((g - min e g).toNat : Int) := by omega
      rw [show Ieee.double.nearest t (n * 2 ^ (g - min e g).toNat) (min e g) = Ieee.double.nearest t (n * 2 ^ (g - min e g).toNat) (g - ((g - min e g).toNat : Int)) from by rw [← hg]]
      exact write_dy64 hv hb hi (by omega) a2 a3
  · obtain ⟨b1, b2, b3⟩ := n1 hu
    have hm : m ≠ 0 := by
      intro h; subst h; rw [signed_zero] at b3
      have hp : (0 : Int) < ((2 ^ (100 - i) : Nat) : Int) := by have := Nat.two_pow_pos (100 - i); omega
      rcases Int.mul_eq_zero.1 b3.symm with h | h <;> omega
    by_cases hv : v = 0
    · obtain ⟨hn0, _⟩ := z2 hv
      subst hn0; subst hv
      rw [Int.add_zero] at hb ⊢
      rw [signed_zero, Int.add_zero]
      have hne : Ieee.signed s m (e - min e g).toNat ≠ 0 := by
        intro h
        have := congrArg Int.natAbs h
        rw [signed_absD] at this
        have := Nat.mul_pos (Nat.pos_of_ne_zero hm) (Nat.two_pow_pos (e - min e g).toNat)
        simp at *; omega
      rw [if_neg hne, signed_sign hm, signed_absD]
      have hg : min e g = e - ((e - min e g).toNat : Int) := by omega
      rw [show Ieee.double.nearest s (m * 2 ^ (e - min e g).toNat) (min e g) = Ieee.double.nearest s (m * 2 ^ (e - min e g).toNat) (e - ((e - min e g).toNat : Int)) from by rw [← hg]]
      exact write_dy64 hu hb hi (by omega) b2 b3
    · obtain ⟨a1, a2, a3⟩ := n2 hv
      have hn : n ≠ 0 := by
        intro h; subst h; rw [signed_zero] at a3
        have hp : (0 : Int) < ((2 ^ (100 - i) : Nat) : Int) := by have := Nat.two_pow_pos (100 - i); omega
        rcases Int.mul_eq_zero.1 a3.symm with h | h <;> omega
      obtain ⟨T, hT⟩ : ∃ T, Ieee.signed s m (e - min e g).toNat + Ieee.signed t n (g - min e g).toNat = T := ⟨_, rfl⟩
      rw [hT]
      have hbase : -90 ≤ min e g ∧ min e g ≤ 60 := by omega
      have hval : T * ((2 ^ (min e g + 100).toNat : Nat) : Int) = (u + v) * ((2 ^ (100 - i) : Nat) : Int) := by
        rw [← hT, Int.add_mul, ← signed_mul, ← signed_mul, Int.add_mul, ← b3, ← a3, show (e - min e g).toNat + (min e g + 100).toNat = (e + 100).toNat by omega, show (g - min e g).toNat + (min e g + 100).toNat = (g + 100).toNat by omega]
      have hp : (0 : Int) < ((2 ^ (100 - i) : Nat) : Int) := by have := Nat.two_pow_pos (100 - i); omega
      have hp2 : (0 : Int) < ((2 ^ (min e g + 100).toNat : Nat) : Int) := by have := Nat.two_pow_pos (min e g + 100).toNat; omega
      by_cases h0 : u + v = 0
      · have hT0 : T = 0 := by
          rw [h0, Int.zero_mul] at hval
          rcases Int.mul_eq_zero.1 hval with h | h
          · exact h
          · omega
        rw [hT0, if_pos rfl, h0]
        have hst : (s && t) = false := by
          have s1 := signed_sign (s := s) (u := (e + 100).toNat) hm
          have s2 := signed_sign (s := t) (u := (g + 100).toNat) hn
          rw [b3] at s1; rw [a3] at s2
          rcases Int.lt_or_lt_of_ne hu with h | h
          · rw [← s2, decide_eq_false (by have := Int.mul_nonneg (show 0 ≤ v by omega) (Int.le_of_lt hp); omega), Bool.and_false]
          · rw [← s1, decide_eq_false (by have := Int.mul_nonneg (show 0 ≤ u by omega) (Int.le_of_lt hp); omega), Bool.false_and]
        rw [hst]
        exact zero _
      · have hT0 : T ≠ 0 := by
          intro h; rw [h, Int.zero_mul] at hval
          rcases Int.mul_eq_zero.1 hval.symm with h | h <;> omega
        rw [if_neg hT0]
        have := write_dy64 (s := decide (T < 0)) (m := T.natAbs) (d := 0) (e := min e g) (z := u + v) (i := i) h0 hb hi (by omega) hbase.2 (by rw [signed_of rfl]; exact hval)
        rw [Nat.pow_zero, Nat.mul_one, Int.natCast_zero, Int.sub_zero] at this
        exact this
end Go.Proofs.Ytfbapbgiegploaa.Flo
/- Exact arithmetic on small dyadic numbers: whole numbers, halves, widening, order; smoothing by a half. No program. -/
namespace Go.Proofs.Ytfbapbgiegploaa.Flo
open Go Go.RowKit
set_option linter.unusedVariables false
theorem DyD.up {b : Bool} {d : Ieee.Datum} {z : Int} {i : Nat} (h : DyD b d z i) (j : Nat) (hj : i + j ≤ 100) : DyD b d (z * ((2 ^ j : Nat) : Int)) (i + j) := by
  obtain ⟨s, m, e, rfl, h2, h3⟩ := h.ex
  have hp : ((2 ^ j : Nat) : Int) ≠ 0 := by have := Nat.two_pow_pos j; omega
  refine ⟨s, m, e, rfl, fun hz => h2 ?_, fun hz => ?_⟩
  · rcases Int.mul_eq_zero.1 hz with h | h
    · exact h
    · exact absurd h hp
  · obtain ⟨a, b, c⟩ := h3 (by rintro rfl; rw [Int.zero_mul] at hz; exact hz rfl)
    refine ⟨a, b, ?_⟩
    rw [c, Int.mul_assoc, ← two_pow_cast_mul, show j + (100 - (i + j)) = 100 - i by omega]
theorem dyI {z : Int} (h : z.natAbs < 16777216) : DyD true (Ieee.single.read (floatOfInt .f32 z)) z 0 := by
  have e : floatOfInt .f32 z = Ieee.single.nearest (decide (z < 0)) z.natAbs 0 := rfl
  rw [e]
  by_cases hz : z = 0
  · subst hz
    exact ⟨false, 0, -149, by decide +kernel, fun _ => ⟨rfl, fun _ => rfl⟩, fun h => absurd rfl h⟩
  · have := write_dy32 (s := decide (z < 0)) (m := z.natAbs) (d := 0) (e := 0) (z := z) (i := 0) hz h (by omega) (by omega) (by omega) (by rw [signed_of rfl]; rfl)
    rw [Nat.pow_zero, Nat.mul_one, Int.natCast_zero, Int.sub_zero] at this
    exact this
theorem half32 : Ieee.single.read 1056964608 = .number false 8388608 (-24) := by decide +kernel
theorem half64 : Ieee.double.read 4602678819172646912 = .number false 4503599627370496 (-53) := by decide +kernel
theorem one32 : Ieee.single.read 1065353216 = .number false 8388608 (-23) := by decide +kernel
theorem zero32 (q : Int) (i : Nat) : DyD true (Ieee.single.read (Ieee.single.nearest false 0 q)) 0 i := by
  have hr : Ieee.single.read (Ieee.single.nearest false 0 q) = .number false 0 Ieee.single.leastPlace := by unfold Ieee.Format.nearest; rw [if_pos rfl]; decide
  exact ⟨false, 0, _, hr, fun _ => ⟨rfl, fun _ => rfl⟩, fun h => absurd rfl h⟩
theorem zero64 (q : Int) (i : Nat) : DyD true (Ieee.double.read (Ieee.double.nearest false 0 q)) 0 i := by
  have hr : Ieee.double.read (Ieee.double.nearest false 0 q) = .number false 0 Ieee.double.leastPlace := by unfold Ieee.Format.nearest; rw [if_pos rfl]; decide
  exact ⟨false, 0, _, hr, fun _ => ⟨rfl, fun _ => rfl⟩, fun h => absurd rfl h⟩
theorem mul_half32 {x : Nat} {z : Int} {i : Nat} (h : DyD true (Ieee.single.read x) z i) (hb : z.natAbs < 16777216) (hi : i ≤ 29) : ∃ r, floatBits .mul .f32 1056964608 x = some r ∧ DyD true (Ieee.single.read r) z (i + 1) := by
  obtain ⟨s, m, e, hd, z0, z1⟩ := h.ex
  have hm : floatBits .mul .f32 1056964608 x = some (Ieee.single.nearest (false ^^ s) (8388608 * m) (-24 + e)) := by
    show ((Ieee.single.read 1056964608).product (Ieee.single.read x)).map Ieee.single.write = _
    rw [half32, hd]; rfl
  refine ⟨_, hm, ?_⟩
  rw [Bool.false_xor]
  by_cases hz : z = 0
  · obtain ⟨rfl, hs⟩ := z0 hz
    rw [hs rfl, hz]
    exact zero32 _ _
  · obtain ⟨a, b, c⟩ := z1 hz
    have := write_dy32 (s := s) (m := m) (d := 23) (e := e - 1) (z := z) (i := i + 1) hz hb (by omega) (by omega) (by omega) (by
      have e1 : (e + 100).toNat = (e - 1 + 100).toNat + 1 := by omega
      rw [e1, signed_mul, show 100 - i = (100 - (i + 1)) + 1 by omega, two_pow_cast_mul, ← Int.mul_assoc] at c
      exact Int.eq_of_mul_eq_mul_right (by decide) c)
    rw [show e - 1 - ((23 : Nat) : Int) = -24 + e by omega, show m * 2 ^ 23 = 8388608 * m by omega] at this
    exact this
theorem mul_half64 {x : Nat} {z : Int} {i : Nat} (h : DyD true (Ieee.double.read x) z i) (hb : z.natAbs < 16777216) (hi : i ≤ 29) : ∃ r, floatBits .mul .f64 4602678819172646912 x = some r ∧ DyD true (Ieee.double.read r) z (i + 1) := by
  obtain ⟨s, m, e, hd, z0, z1⟩ := h.ex
  have hm : floatBits .mul .f64 4602678819172646912 x = some (Ieee.double.nearest (false ^^ s) (4503599627370496 * m) (-53 + e)) := by
    show ((Ieee.double.read 4602678819172646912).product (Ieee.double.read x)).map Ieee.double.write = _
    rw [half64, hd]; rfl
  refine ⟨_, hm, ?_⟩
  rw [Bool.false_xor]
  by_cases hz : z = 0
  · obtain ⟨rfl, hs⟩ := z0 hz
    rw [hs rfl, hz]
    exact zero64 _ _
  · obtain ⟨a, b, c⟩ := z1 hz
    have := write_dy64 (s := s) (m := m) (d := 52) (e := e - 1) (z := z) (i := i + 1) hz hb (by omega) (by omega) (by omega) (by
      have e1 : (e + 100).toNat = (e - 1 + 100).toNat + 1 := by omega
      rw [e1, signed_mul, show 100 - i = (100 - (i + 1)) + 1 by omega, two_pow_cast_mul, ← Int.mul_assoc] at c
      exact Int.eq_of_mul_eq_mul_right (by decide) c)
    rw [show e - 1 - ((52 : Nat) : Int) = -53 + e by omega, show m * 2 ^ 52 = 4503599627370496 * m by omega] at this
    exact this
theorem mul_one32 {x : Nat} {z : Int} {i : Nat} (h : DyD true (Ieee.single.read x) z i) (hb : z.natAbs < 16777216) (hi : i ≤ 30) : ∃ r, floatBits .mul .f32 1065353216 x = some r ∧ DyD true (Ieee.single.read r) z i := by
  obtain ⟨s, m, e, hd, z0, z1⟩ := h.ex
  have hm : floatBits .mul .f32 1065353216 x = some (Ieee.single.nearest (false ^^ s) (8388608 * m) (-23 + e)) := by
    show ((Ieee.single.read 1065353216).product (Ieee.single.read x)).map Ieee.single.write = _
    rw [one32, hd]; rfl
  refine ⟨_, hm, ?_⟩
  rw [Bool.false_xor]
  by_cases hz : z = 0
  · obtain ⟨rfl, hs⟩ := z0 hz
    rw [hs rfl, hz]
    exact zero32 _ _
  · obtain ⟨a, b, c⟩ := z1 hz
    have := write_dy32 (s := s) (m := m) (d := 23) (e := e) (z := z) (i := i) hz hb hi (by omega) (by omega) c
    rw [show e - ((23 : Nat) : Int) = -23 + e by omega, show m * 2 ^ 23 = 8388608 * m by omega] at this
    exact this
theorem add_dy32 {x y : Nat} {u v : Int} {i : Nat} (hx : DyD true (Ieee.single.read x) u i) (hy : DyD true (Ieee.single.read y) v i) (hb : (u + v).natAbs < 16777216) (hi : i ≤ 30) : ∃ r, floatBits .add .f32 x y = some r ∧ DyD true (Ieee.single.read r) (u + v) i := sum_dy32 hx hy.weak hb hi
theorem sub_dy32 {x y : Nat} {u v : Int} {i : Nat} (hx : DyD true (Ieee.single.read x) u i) (hy : DyD true (Ieee.single.read y) v i) (hb : (u - v).natAbs < 16777216) (hi : i ≤ 30) : ∃ r, floatBits .sub .f32 x y = some r ∧ DyD true (Ieee.single.read r) (u - v) i := sum_dy32 hx hy.opp hb hi
theorem add_dy64 {x y : Nat} {u v : Int} {i : Nat} (hx : DyD true (Ieee.double.read x) u i) (hy : DyD true (Ieee.double.read y) v i) (hb : (u + v).natAbs < 16777216) (hi : i ≤ 30) : ∃ r, floatBits .add .f64 x y = some r ∧ DyD true (Ieee.double.read r) (u + v) i := sum_dy64 hx hy.weak hb hi
theorem sub_dy64 {x y : Nat} {u v : Int} {i : Nat} (hx : DyD true (Ieee.double.read x) u i) (hy : DyD true (Ieee.double.read y) v i) (hb : (u - v).natAbs < 16777216) (hi : i ≤ 30) : ∃ r, floatBits .sub .f64 x y = some r ∧ DyD true (Ieee.double.read r) (u - v) i := sum_dy64 hx hy.opp hb hi
theorem wide_dy {b : Nat} {z : Int} {i : Nat} (h : DyD true (Ieee.single.read b) z i) (hb : z.natAbs < 16777216) (hi : i ≤ 30) : ∃ c, floatToFloatBits .f32 b .f64 = some c ∧ DyD true (Ieee.double.read c) z i := by
  obtain ⟨s, m, e, hd, z0, z1⟩ := h.ex
  have hres : DyD true (Ieee.double.read (Ieee.double.nearest s m e)) z i := by
    by_cases hz : z = 0
    · obtain ⟨rfl, hs⟩ := z0 hz
      rw [hs rfl, hz]
      exact zero64 _ _
    · obtain ⟨a, b, c⟩ := z1 hz
      have := write_dy64 (s := s) (m := m) (d := 0) (e := e) (z := z) (i := i) hz hb hi (by omega) (by omega) c
      rw [Nat.pow_zero, Nat.mul_one, Int.natCast_zero, Int.sub_zero] at this
      exact this
  refine ⟨Ieee.double.nearest s m e, ?_, hres⟩
  have hd' : FloatKind.f32.decode b = .number s m e := hd
  unfold floatToFloatBits
  rw [if_neg (by decide), hd']
  have hfin : (FloatKind.f64.decode (FloatKind.f64.encode (.number s m e))).isInfinity = false := by
    obtain ⟨s', m', e', hh, _⟩ := hres.ex
    show (Ieee.double.read (Ieee.double.nearest s m e)).isInfinity = false
    rw [hh]; rfl
  show (if (FloatKind.f64.decode (FloatKind.f64.encode (.number s m e))).isInfinity then none else some (FloatKind.f64.encode (.number s m e))) = _
  rw [hfin]; rfl
/-- the gap of two equal numbers -/
theorem zero_gap {p q : Nat} {i : Nat} (hp : DyD true (Ieee.double.read p) 0 i) (hq : DyD true (Ieee.double.read q) 0 i) : FloatKind.f64.format.order p q = some .eq ∧ (FloatKind.f64.decode p).neg = false ∧ (FloatKind.f64.format.order p 4562254508917369340 == some .gt) = false := by
  obtain ⟨s, m, e, h1, z1, _⟩ := hp.ex
  obtain ⟨t, n, g, h2, z2, _⟩ := hq.ex
  obtain ⟨rfl, hs⟩ := z1 rfl
  obtain ⟨rfl, ht⟩ := z2 rfl
  have hs := hs rfl
  subst hs
  refine ⟨?_, ?_, ?_⟩
  · show (Ieee.double.read p).order (Ieee.double.read q) = _
    rw [h1, h2]
    show some (compare (Ieee.signed false 0 _) (Ieee.signed t 0 _)) = _
    rw [signed_zero, signed_zero]; rfl
  · show (Ieee.double.read p).neg = false
    rw [h1]; rfl
  · have hc : Ieee.double.read 4562254508917369340 = .number false 4611686018427388 (-62) := by decide +kernel
    show ((Ieee.double.read p).order (Ieee.double.read 4562254508917369340) == some .gt) = false
    rw [h1, hc]
    show (some (compare (Ieee.signed false 0 _) (Ieee.signed false 4611686018427388 _)) == some Ordering.gt) = false
    rw [signed_zero]
    have hpos : 0 < Ieee.signed false 4611686018427388 (-62 - min e (-62)).toNat := by
      unfold Ieee.signed
      rw [Nat.shiftLeft_eq]
      have := Nat.mul_pos (show 0 < 4611686018427388 by decide) (Nat.two_pow_pos (-62 - min e (-62)).toNat)
      simp only [if_neg (show ¬ false = true by decide)]; omega
    generalize Ieee.signed false 4611686018427388 (-62 - min e (-62)).toNat = c at hpos
    have : compare (0 : Int) c = .lt := by
      show compareOfLessAndEq _ _ = _
      unfold compareOfLessAndEq; rw [if_pos hpos]
    rw [this]; rfl
end Go.Proofs.Ytfbapbgiegploaa.Flo
/- Smoothing of small whole numbers, by a half and by one: exact. No program. -/
namespace Go.Proofs.Ytfbapbgiegploaa.Flo
open Go Go.RowKit Go.Proofs.Ytfbapbgiegploaa
set_option linter.unusedVariables false
/-- the numerator over 2 ^ i -/
def kN (zs : List Int) : Nat → Int
  | 0 => getI zs 0
  | i + 1 => kN zs i + getI zs (i + 1) * ((2 ^ i : Nat) : Int)
theorem kN_bd {zs : List Int} (h : ∀ i, -6 ≤ getI zs i ∧ getI zs i ≤ 6) : ∀ i, -(6 * ((2 ^ i : Nat) : Int)) ≤ kN zs i ∧ kN zs i ≤ 6 * ((2 ^ i : Nat) : Int)
  | 0 => by have := h 0; simp [kN]; omega
  | i + 1 => by
    have ih := kN_bd h i
    have hx := h (i + 1)
    have hp : (0 : Int) < ((2 ^ i : Nat) : Int) := by have := Nat.two_pow_pos i; omega
    have e : ((2 ^ (i + 1) : Nat) : Int) = 2 * ((2 ^ i : Nat) : Int) := by rw [Nat.pow_succ, Int.natCast_mul]; omega
    show -(6 * ((2 ^ (i + 1) : Nat) : Int)) ≤ kN zs i + getI zs (i + 1) * ((2 ^ i : Nat) : Int) ∧ kN zs i + getI zs (i + 1) * ((2 ^ i : Nat) : Int) ≤ _
    rw [e]
    generalize ((2 ^ i : Nat) : Int) = p at *
    have h1 : getI zs (i + 1) * p ≤ 6 * p := Int.mul_le_mul_of_nonneg_right hx.2 (by omega)
    have h2 : -6 * p ≤ getI zs (i + 1) * p := Int.mul_le_mul_of_nonneg_right hx.1 (by omega)
    omega
theorem pow_small {i : Nat} (h : i ≤ 19) : ((2 ^ i : Nat) : Int) ≤ 524288 := by
  have : 2 ^ i ≤ 2 ^ 19 := Nat.pow_le_pow_right (by decide) h
  have e : 2 ^ 19 = 524288 := rfl
  omega
structure Floats6 (zs : List Int) (fs : List Nat) : Prop where
  b : ∀ i, -6 ≤ getI zs i ∧ getI zs i ≤ 6
  f : ∀ i, getN fs i = floatOfInt .f32 (getI zs i)
theorem Floats6.dy {zs : List Int} {fs : List Nat} (h : Floats6 zs fs) (i : Nat) : DyD true (Ieee.single.read (getN fs i)) (getI zs i) 0 := by
  rw [h.f]; exact dyI (by have := h.b i; omega)
theorem dy_fv {b : Nat} {z : Int} {i : Nat} (h : DyD true (Ieee.single.read b) z i) : fv .f32 b = some b := by
  obtain ⟨s, m, e, hd, _⟩ := h.ex
  exact fv_some (show (FloatKind.f32.decode b).isNaN = false by show (Ieee.single.read b).isNaN = false; rw [hd]; rfl)
theorem dy_fin {b : Nat} {z : Int} {i : Nat} (h : DyD true (Ieee.single.read b) z i) : isFin .f32 b = true := by
  obtain ⟨s, m, e, hd, _⟩ := h.ex
  unfold isFin
  have : FloatKind.f32.decode b = .number s m e := hd
  rw [this]
/-- smoothing by a half -/
theorem smooth_dy {zs : List Int} {fs : List Nat} (h : Floats6 zs fs) : ∀ i, i ≤ 19 → ∃ b, smN fs 1056964608 i = some b ∧ DyD true (Ieee.single.read b) (kN zs i) i
  | 0, _ => ⟨getN fs 0, dy_fv (h.dy 0), h.dy 0⟩
  | i + 1, hi => by
    obtain ⟨b, hb, hd⟩ := smooth_dy h i (by omega)
    have hbd := kN_bd h.b i
    have hbd2 := kN_bd h.b (i + 1)
    have hx := h.b (i + 1)
    have hp := pow_small (show i ≤ 18 + 1 by omega)
    have hp18 : ((2 ^ i : Nat) : Int) ≤ 262144 := by
      have : 2 ^ i ≤ 2 ^ 18 := Nat.pow_le_pow_right (by decide) (by omega)
      have e : 2 ^ 18 = 262144 := rfl
      omega
    have hp0 : (0 : Int) < ((2 ^ i : Nat) : Int) := by have := Nat.two_pow_pos i; omega
    have e2 : ((2 ^ (i + 1) : Nat) : Int) = 2 * ((2 ^ i : Nat) : Int) := by rw [Nat.pow_succ, Int.natCast_mul]; omega
    have hxd := (h.dy (i + 1)).up i (by omega)
    rw [Nat.zero_add] at hxd
    have hk : kN zs (i + 1) = kN zs i + getI zs (i + 1) * ((2 ^ i : Nat) : Int) := rfl
    obtain ⟨X, hX⟩ : ∃ X, getI zs (i + 1) * ((2 ^ i : Nat) : Int) = X := ⟨_, rfl⟩
    have hX1 : X ≤ 6 * ((2 ^ i : Nat) : Int) := by rw [← hX]; exact Int.mul_le_mul_of_nonneg_right hx.2 (by omega)
    have hX2 : -6 * ((2 ^ i : Nat) : Int) ≤ X := by rw [← hX]; exact Int.mul_le_mul_of_nonneg_right hx.1 (by omega)
    rw [hX] at hxd hk
    obtain ⟨r1, q1, d1⟩ := sub_dy32 hxd hd (by omega) (by omega)
    obtain ⟨r2, q2, d2⟩ := mul_half32 d1 (by omega) (by omega)
    have hd1 := hd.up 1 (by omega)
    rw [show ((2 ^ 1 : Nat) : Int) = 2 from rfl] at hd1
    obtain ⟨r3, q3, d3⟩ := add_dy32 hd1 d2 (by omega) (by omega)
    rw [show kN zs i * 2 + (X - kN zs i) = kN zs (i + 1) by omega] at d3
    refine ⟨r3, ?_, d3⟩
    have e0 : fv .f32 1056964608 = some 1056964608 := by decide +kernel
    show fop .add .f32 (smN fs 1056964608 i) (fop .mul .f32 (fv .f32 1056964608) (fop .sub .f32 (fv .f32 (getN fs (i + 1))) (smN fs 1056964608 i))) = _
    rw [hb, dy_fv (h.dy (i + 1)), e0]
    show fop .add .f32 (some b) (fop .mul .f32 (some 1056964608) (floatBits .sub .f32 (getN fs (i + 1)) b)) = _
    rw [q1]
    show fop .add .f32 (some b) (floatBits .mul .f32 1056964608 r1) = _
    rw [q2]
    exact q3
/-- smoothing by one leaves each number -/
theorem still_dy {zs : List Int} {fs : List Nat} (h : Floats6 zs fs) : ∀ i, ∃ b, smN fs 1065353216 i = some b ∧ DyD true (Ieee.single.read b) (getI zs i) 0
  | 0 => ⟨getN fs 0, dy_fv (h.dy 0), h.dy 0⟩
  | i + 1 => by
    obtain ⟨b, hb, hd⟩ := still_dy h i
    have hx := h.b (i + 1)
    have hy := h.b i
    obtain ⟨r1, q1, d1⟩ := sub_dy32 (h.dy (i + 1)) hd (by omega) (by omega)
    obtain ⟨r2, q2, d2⟩ := mul_one32 d1 (by omega) (by omega)
    obtain ⟨r3, q3, d3⟩ := add_dy32 hd d2 (by omega) (by omega)
    rw [show getI zs i + (getI zs (i + 1) - getI zs i) = getI zs (i + 1) by omega] at d3
    refine ⟨r3, ?_, d3⟩
    have e0 : fv .f32 1065353216 = some 1065353216 := by decide +kernel
    show fop .add .f32 (smN fs 1065353216 i) (fop .mul .f32 (fv .f32 1065353216) (fop .sub .f32 (fv .f32 (getN fs (i + 1))) (smN fs 1065353216 i))) = _
    rw [hb, dy_fv (h.dy (i + 1)), e0]
    show fop .add .f32 (some b) (fop .mul .f32 (some 1065353216) (floatBits .sub .f32 (getN fs (i + 1)) b)) = _
    rw [q1]
    show fop .add .f32 (some b) (floatBits .mul .f32 1065353216 r1) = _
    rw [q2]
    exact q3
/-- two floats of one number are equal -/
theorem dy_order {a b : Nat} {z : Int} {i : Nat} (ha : DyD true (Ieee.single.read a) z i) (hb : DyD true (Ieee.single.read b) z i) : FloatKind.f32.format.order a b = some .eq := by
  obtain ⟨s, m, e, h1, z1, n1⟩ := ha.ex
  obtain ⟨t, n, g, h2, z2, n2⟩ := hb.ex
  show (Ieee.single.read a).order (Ieee.single.read b) = _
  rw [h1, h2]
  show some (compare (Ieee.signed s m (e - min e g).toNat) (Ieee.signed t n (g - min e g).toNat)) = _
  have key : Ieee.signed s m (e - min e g).toNat = Ieee.signed t n (g - min e g).toNat := by
    by_cases hz : z = 0
    · rw [(z1 hz).1, (z2 hz).1, signed_zero, signed_zero]
    · obtain ⟨a1, a2, a3⟩ := n1 hz
      obtain ⟨b1, b2, b3⟩ := n2 hz
      have e1 : (e + 100).toNat = (e - min e g).toNat + (min e g + 100).toNat := by omega
      have e2 : (g + 100).toNat = (g - min e g).toNat + (min e g + 100).toNat := by omega
      rw [e1, signed_mul] at a3
      rw [e2, signed_mul, ← a3] at b3
      have hp : ((2 ^ (min e g + 100).toNat : Nat) : Int) ≠ 0 := by have := Nat.two_pow_pos (min e g + 100).toNat; omega
      exact (Int.eq_of_mul_eq_mul_right hp b3).symm
  rw [key]
  congr 1
  show compareOfLessAndEq _ _ = _
  unfold compareOfLessAndEq
  rw [if_neg (by omega), if_pos rfl]
/-- the gap of a smoothed number and what it is made of, in 64 bits -/
structure GapOk (b b' x : Nat) (A B X t1 t2 t3 p q : Nat) : Prop where
  wA : floatToFloatBits .f32 b' .f64 = some A
  wB : floatToFloatBits .f32 b .f64 = some B
  wX : floatToFloatBits .f32 x .f64 = some X
  s1 : floatBits .sub .f64 X B = some t1
  s2 : floatBits .mul .f64 4602678819172646912 t1 = some t2
  s3 : floatBits .add .f64 B t2 = some t3
  s4 : floatBits .sub .f64 A t3 = some p
  s5 : floatBits .sub .f64 t3 A = some q
  o : FloatKind.f64.format.order p q = some .eq
  n : (FloatKind.f64.decode p).neg = false
  g : (FloatKind.f64.format.order p 4562254508917369340 == some .gt) = false
theorem smooth_gap {zs : List Int} {fs : List Nat} (h : Floats6 zs fs) {i : Nat} (hi : i ≤ 18) {b b' : Nat} (hb : smN fs 1056964608 i = some b) (hb' : smN fs 1056964608 (i + 1) = some b') :
    ∃ A B X t1 t2 t3 p q, GapOk b b' (getN fs (i + 1)) A B X t1 t2 t3 p q := by
  obtain ⟨c, hc, hd⟩ := smooth_dy h i (by omega)
  obtain ⟨c', hc', hd'⟩ := smooth_dy h (i + 1) (by omega)
  rw [hb] at hc; cases hc
  rw [hb'] at hc'; cases hc'
  have hbd := kN_bd h.b i
  have hbd2 := kN_bd h.b (i + 1)
  have hx := h.b (i + 1)
  have hp18 : ((2 ^ i : Nat) : Int) ≤ 262144 := by
    have : 2 ^ i ≤ 2 ^ 18 := Nat.pow_le_pow_right (by decide) (by omega)
    have e : 2 ^ 18 = 262144 := rfl
    omega
  have hp0 : (0 : Int) < ((2 ^ i : Nat) : Int) := by have := Nat.two_pow_pos i; omega
  have e2 : ((2 ^ (i + 1) : Nat) : Int) = 2 * ((2 ^ i : Nat) : Int) := by rw [Nat.pow_succ, Int.natCast_mul]; omega
  have hk : kN zs (i + 1) = kN zs i + getI zs (i + 1) * ((2 ^ i : Nat) : Int) := rfl
  obtain ⟨X0, hX⟩ : ∃ X, getI zs (i + 1) * ((2 ^ i : Nat) : Int) = X := ⟨_, rfl⟩
  have hX1 : X0 ≤ 6 * ((2 ^ i : Nat) : Int) := by rw [← hX]; exact Int.mul_le_mul_of_nonneg_right hx.2 (by omega)
  have hX2 : -6 * ((2 ^ i : Nat) : Int) ≤ X0 := by rw [← hX]; exact Int.mul_le_mul_of_nonneg_right hx.1 (by omega)
  rw [hX] at hk
  obtain ⟨A, wA, dA⟩ := wide_dy hd' (by omega) (by omega)
  obtain ⟨B, wB, dB⟩ := wide_dy hd (by omega) (by omega)
  obtain ⟨X, wX, dX⟩ := wide_dy (h.dy (i + 1)) (by omega) (by omega)
  have dX' := dX.up i (by omega)
  rw [Nat.zero_add, hX] at dX'
  obtain ⟨t1, s1, d1⟩ := sub_dy64 dX' dB (by omega) (by omega)
  obtain ⟨t2, s2, d2⟩ := mul_half64 d1 (by omega) (by omega)
  have dB1 := dB.up 1 (by omega)
  rw [show ((2 ^ 1 : Nat) : Int) = 2 from rfl] at dB1
  obtain ⟨t3, s3, d3⟩ := add_dy64 dB1 d2 (by omega) (by omega)
  rw [show kN zs i * 2 + (X0 - kN zs i) = kN zs (i + 1) by omega] at d3
  obtain ⟨p, s4, d4⟩ := sub_dy64 dA d3 (by omega) (by omega)
  obtain ⟨q, s5, d5⟩ := sub_dy64 d3 dA (by omega) (by omega)
  rw [Int.sub_self] at d4 d5
  obtain ⟨o, n, g⟩ := zero_gap d4 d5
  exact ⟨A, B, X, t1, t2, t3, p, q, wA, wB, wX, s1, s2, s3, s4, s5, o, n, g⟩
end Go.Proofs.Ytfbapbgiegploaa.Flo
/- FnLasts: the gap of two floats by the program. -/
namespace Go.Proofs.Ytfbapbgiegploaa
open Go.ChangeShapes Go.WideShapes Go.ChangeAt Go.RowKit Go.Proofs.Ytfbapbgiegploaa.Flo
set_option linter.unusedVariables false
/-- the greater of two floats that are numbers -/
def gapR (p q : Nat) : Option Nat := match FloatKind.f64.format.order p q with
  | none => none
  | some .lt => some q
  | some .gt => some p
  | some .eq => some (if (FloatKind.f64.decode p).neg then q else p)
theorem run_max_fl {P : Program} (w : World) (ts : Array TypeId) (t : TypeId) {p q r : Nat} (h : gapR p q = some r) : (Builtin.max_ ts t #[.float .f64 p, .float .f64 q]).run P w = .ok (.float .f64 r) w := by
  unfold gapR at h
  cases ho : FloatKind.f64.format.order p q with
  | none => rw [ho] at h; cases h
  | some o =>
    rw [ho] at h
    cases o <;> simp only [Option.some.injEq] at h <;> subst h <;> simp [Builtin.max_, Builtin.max2, ho]
theorem c_r8Gap (a b : Nat) (w : World) {p q r : Nat} (h1 : floatBits .sub .f64 a b = some p) (h2 : floatBits .sub .f64 b a = some q) (h : gapR p q = some r) :
    Calls Try.prog 24 #[.float .f64 a, .float .f64 b] w fun e w' => e = .returned (.float .f64 r) ∧ w' = w := by
  have H1 := Lib.hid h1; have H2 := Lib.hid h2; have H := Lib.hid h
  clear h1 h2 h
  go_enter Try.func24, Try.ntmps24
  go_wp2
  rw [run_fl_sub, flR_q H1.out, flD_q H1.out, World.drewN_zero]
  go_wp2
  rw [run_fl_sub, flR_q H2.out, flD_q H2.out, World.drewN_zero]
  go_wp2
  rw [run_max_fl _ _ _ H.out]
  go_wp2
  go_ret
  exact ⟨rfl, rfl⟩
end Go.Proofs.Ytfbapbgiegploaa
