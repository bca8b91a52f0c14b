/- Turns: those nearer to 0 than 2 ^ 52, the integer that is cut off, the share that is left, and bounds on the sine. -/
import Derived.Test.YtplngjbllllanaaCir
namespace Go.Proofs.Ytplngjbllllanaa
open Go Go.RowKit Go.Proofs.Ytplngjbllllanaa.Flo

theorem c52 : FloatKind.f64.decode 4841369599423283200 = .number false 4503599627370496 0 := rfl
theorem m52 : FloatKind.f64.decode 14064741636278059008 = .number true 4503599627370496 0 := rfl
def Near' (x : Nat) : Prop := isFin .f64 x = true ∧ (FloatKind.f64.format.order x 4841369599423283200 == some .gt || FloatKind.f64.format.order x 4841369599423283200 == some .eq) = false ∧ (FloatKind.f64.format.order x 14064741636278059008 == some .lt || FloatKind.f64.format.order x 14064741636278059008 == some .eq) = false

theorem cmp_lt {a b : Int} (h : a < b) : compare a b = .lt := by rw [Int.compare_eq_lt]; exact h
theorem cmp_gt {a b : Int} (h : b < a) : compare a b = .gt := by rw [Int.compare_eq_gt]; exact h
theorem cmp_eq {a b : Int} (h : a = b) : compare a b = .eq := by rw [Int.compare_eq_eq]; exact h

/-- a finite number, held against 2 ^ 52 from both sides -/
theorem near_cases {x : Nat} {s : Bool} {m : Nat} {e : Int} (hd : FloatKind.f64.decode x = .number s m e) :
    ((m <<< (e - min e 0).toNat < 4503599627370496 <<< (0 - min e 0).toNat) ∧ Near' x ∧ (FloatKind.f64.format.order (x % 9223372036854775808) 4841369599423283200 == some .gt || FloatKind.f64.format.order (x % 9223372036854775808) 4841369599423283200 == some .eq) = false) ∨
    ((FloatKind.f64.format.order (x % 9223372036854775808) 4841369599423283200 == some .gt || FloatKind.f64.format.order (x % 9223372036854775808) 4841369599423283200 == some .eq) = true ∧
      ((FloatKind.f64.format.order x 4841369599423283200 == some .gt || FloatKind.f64.format.order x 4841369599423283200 == some .eq) = true ∨
       ((FloatKind.f64.format.order x 4841369599423283200 == some .gt || FloatKind.f64.format.order x 4841369599423283200 == some .eq) = false ∧ (FloatKind.f64.format.order x 14064741636278059008 == some .lt || FloatKind.f64.format.order x 14064741636278059008 == some .eq) = true))) := by
  have ha : FloatKind.f64.format.order (x % 9223372036854775808) 4841369599423283200 = some (compare ((m <<< (e - min e 0).toNat : Nat) : Int) ((4503599627370496 <<< (0 - min e 0).toNat : Nat) : Int)) := by
    have h1 : FloatKind.f64.decode (x % 9223372036854775808) = Dabs (FloatKind.f64.decode x) := read_abs Ieee.double x
    have h2 : FloatKind.f64.format.order (x % 9223372036854775808) 4841369599423283200 = (FloatKind.f64.decode (x % 9223372036854775808)).order (FloatKind.f64.decode 4841369599423283200) := rfl
    rw [h2, h1, hd, c52]; rfl
  have hp : FloatKind.f64.format.order x 4841369599423283200 = some (compare (Ieee.signed s m (e - min e 0).toNat) ((4503599627370496 <<< (0 - min e 0).toNat : Nat) : Int)) := by
    have h2 : FloatKind.f64.format.order x 4841369599423283200 = (FloatKind.f64.decode x).order (FloatKind.f64.decode 4841369599423283200) := rfl
    rw [h2, hd, c52]; rfl
  have hn : FloatKind.f64.format.order x 14064741636278059008 = some (compare (Ieee.signed s m (e - min e 0).toNat) (-((4503599627370496 <<< (0 - min e 0).toNat : Nat) : Int))) := by
    have h2 : FloatKind.f64.format.order x 14064741636278059008 = (FloatKind.f64.decode x).order (FloatKind.f64.decode 14064741636278059008) := rfl
    rw [h2, hd, m52]; rfl
  have hfin : isFin .f64 x = true := by unfold isFin; rw [hd]
  have hB : 0 < 4503599627370496 <<< (0 - min e 0).toNat := by rw [Nat.shiftLeft_eq]; exact Nat.mul_pos (by omega) (Nat.two_pow_pos _)
  have hs : Ieee.signed s m (e - min e 0).toNat = if s then -((m <<< (e - min e 0).toNat : Nat) : Int) else ((m <<< (e - min e 0).toNat : Nat) : Int) := rfl
  rw [hs] at hp hn
  unfold Near'
  rw [ha, hp, hn]
  generalize m <<< (e - min e 0).toNat = A at *
  generalize 4503599627370496 <<< (0 - min e 0).toNat = B at *
  by_cases hAB : A < B
  · left
    refine ⟨hAB, ⟨hfin, ?_, ?_⟩, ?_⟩
    · cases s
      · rw [if_neg (by decide), cmp_lt (by omega)]; rfl
      · rw [if_pos rfl, cmp_lt (by omega)]; rfl
    · cases s
      · rw [if_neg (by decide), cmp_gt (by omega)]; rfl
      · rw [if_pos rfl, cmp_gt (by omega)]; rfl
    · rw [cmp_lt (by omega)]; rfl
  · right
    by_cases hE : A = B
    · refine ⟨by rw [cmp_eq (by omega)]; rfl, ?_⟩
      cases s
      · left; rw [if_neg (by decide), cmp_eq (by omega)]; rfl
      · right; rw [if_pos rfl, cmp_lt (by omega), cmp_eq (by omega)]; exact ⟨rfl, rfl⟩
    · refine ⟨by rw [cmp_gt (by omega)]; rfl, ?_⟩
      cases s
      · left; rw [if_neg (by decide), cmp_gt (by omega)]; rfl
      · right; rw [if_pos rfl, cmp_lt (by omega), cmp_lt (by omega)]; exact ⟨rfl, rfl⟩

theorem cut_toward (s : Bool) (n d : Nat) : Ieee.Toward.zero.cut s n d = n / 2 ^ d := by
  unfold Ieee.Toward.cut
  simp only [Nat.shiftLeft_eq, Nat.one_mul, Bool.toNat_false, Nat.add_zero]
  by_cases h : d ≤ n.log2 + 2
  · rw [Nat.min_eq_left h]
  · rw [Nat.min_eq_right (by omega)]
    have h1 : n < 2 ^ (n.log2 + 1) := Nat.lt_log2_self
    have h2 : n < 2 ^ (n.log2 + 2) := Nat.lt_trans h1 (Nat.pow_lt_pow_right (by omega) (by omega))
    have h3 : n < 2 ^ d := Nat.lt_trans h2 (Nat.pow_lt_pow_right (by omega) (by omega))
    rw [Nat.div_eq_of_lt h2, Nat.div_eq_of_lt h3]

/-- the integer that is cut off -/
def wholeOf (_s : Bool) (m : Nat) (e : Int) : Nat := m * 2 ^ e.toNat / 2 ^ (-e).toNat
theorem whole_lt {m : Nat} {e : Int} (h : m <<< (e - min e 0).toNat < 4503599627370496 <<< (0 - min e 0).toNat) (s : Bool) : wholeOf s m e < 4503599627370496 := by
  unfold wholeOf
  rw [Nat.shiftLeft_eq, Nat.shiftLeft_eq] at h
  by_cases he : 0 ≤ e
  · have e1 : min e 0 = 0 := by omega
    have e2 : (-e).toNat = 0 := by omega
    have e3 : (e - 0).toNat = e.toNat := by omega
    have e4 : ((0 : Int) - 0).toNat = 0 := rfl
    rw [e1, e3, e4, Nat.pow_zero, Nat.mul_one] at h
    rw [e2, Nat.pow_zero, Nat.div_one]
    exact h
  · have e1 : min e 0 = e := by omega
    have e2 : e.toNat = 0 := by omega
    have e3 : (e - e).toNat = 0 := by omega
    have e4 : ((0 : Int) - e).toNat = (-e).toNat := by omega
    rw [e1, e3, e4, Nat.pow_zero, Nat.mul_one] at h
    rw [e2, Nat.pow_zero, Nat.mul_one, Nat.div_lt_iff_lt_mul (Nat.two_pow_pos _)]
    exact h
theorem trunc_near {x : Nat} {s : Bool} {m : Nat} {e : Int} (hd : FloatKind.f64.decode x = .number s m e) (h : m <<< (e - min e 0).toNat < 4503599627370496 <<< (0 - min e 0).toNat) :
    floatToIntVal .f64 x .i64 = some (if s then -(wholeOf s m e : Int) else (wholeOf s m e : Int)) := by
  have hw := whole_lt h s
  unfold floatToIntVal
  have ht : (FloatKind.f64.decode x).toInt .zero = some (if s then -(wholeOf s m e : Int) else (wholeOf s m e : Int)) := by
    rw [hd]
    unfold Ieee.Datum.toInt Ieee.Datum.integral
    simp only [cut_toward, Nat.shiftLeft_eq]
    show some (Ieee.signed s (wholeOf s m e) 0) = _
    unfold Ieee.signed
    rw [Nat.shiftLeft_eq, Nat.pow_zero, Nat.mul_one]
  rw [ht]
  have e1 : IntKind.i64.min = -9223372036854775808 := rfl
  have e2 : IntKind.i64.max = 9223372036854775807 := rfl
  rw [e1, e2]
  simp only
  rw [if_pos]
  cases s
  · rw [if_neg (by decide)]; omega
  · rw [if_pos rfl]; omega

/-- an integer's float reads as that integer -/
theorem decode_int {s : Bool} {q : Nat} (h0 : q ≠ 0) (hq : q < 4503599627370496) :
    FloatKind.f64.decode (FloatKind.f64.encode (.number s q 0)) = .number s (q * 2 ^ (52 - q.log2)) (0 - (52 - q.log2 : Nat)) := by
  have hl : q.log2 < 52 := (Nat.log2_lt h0).2 hq
  obtain ⟨b1, b2⟩ := shl_bounds h0 (n := 52) (by omega)
  have henc : FloatKind.f64.encode (.number s q 0) = Ieee.double.word s ((q.log2 + 1022) * 4503599627370496 + q * 2 ^ (52 - q.log2)) := by
    simp only [FloatKind.encode, FloatKind.format, Ieee.Format.write]
    rw [nearest_rung Ieee.double s 0 h0]
    have hr : rungOf Ieee.double s q 0 = (q.log2 + 1022) * 4503599627370496 + q * 2 ^ (52 - q.log2) := by
      unfold rungOf
      simp only [double_least, double_bin]
      have hlast : max (0 + (q.log2 : Int) - (Ieee.double.fractionBits : Int)) (-1074) = (q.log2 : Int) - 52 := by
        show max (0 + (q.log2 : Int) - 52) (-1074) = _
        omega
      rw [hlast]
      have e1 : (0 - ((q.log2 : Int) - 52)).toNat = 52 - q.log2 := by omega
      have e2 : ((q.log2 : Int) - 52 - 0).toNat = 0 := by omega
      have e3 : ((q.log2 : Int) - 52 - (-1074)).toNat = q.log2 + 1022 := by omega
      rw [e1, e2, e3, cut_zero, Nat.shiftLeft_eq]
    rw [hr, Nat.min_eq_left]
    rw [double_inf]
    have b2' : q * 2 ^ (52 - q.log2) < 9007199254740992 := b2
    omega
  rw [henc]
  generalize hk : q * 2 ^ (52 - q.log2) = k at *
  have b1' : 4503599627370496 ≤ k := b1
  have b2' : k < 9007199254740992 := b2
  generalize q.log2 = j at *
  show Ieee.double.read _ = _
  rw [read_wordf]
  · rw [if_neg (by rw [double_bin]; omega), double_bin, double_least]
    have a1 : ((j + 1022) * 4503599627370496 + k) % 4503599627370496 = k - 4503599627370496 := by omega
    have a2 : ((j + 1022) * 4503599627370496 + k) / 4503599627370496 = j + 1022 + 1 := by omega
    rw [a1, a2]
    have c1 : 4503599627370496 + (k - 4503599627370496) = k := by omega
    have c2 : (-1074 : Int) + ((j + 1022 + 1 - 1 : Nat) : Int) = 0 - ((52 - j : Nat) : Int) := by omega
    rw [c1, c2]
  · rw [double_inf]; omega

/-- THE SHARE: what is left is at most 1. -/
theorem frac_bd {x : Nat} {s : Bool} {m : Nat} {e : Int} (hd : FloatKind.f64.decode x = .number s m e) (h : m <<< (e - min e 0).toNat < 4503599627370496 <<< (0 - min e 0).toNat) :
    Bd .f64 (fop .sub .f64 (fv .f64 x) (fv .f64 (floatOfInt .f64 (if s then -(wholeOf s m e : Int) else (wholeOf s m e : Int))))) 0 := by
  have hw := whole_lt h s
  have hx : fv .f64 x = some x := fv_some (by rw [hd]; rfl)
  have hpw : ∀ k : Nat, 0 < 2 ^ k := Nat.two_pow_pos
  obtain ⟨r1, r2⟩ := f64_room (t := 0) (by omega) (by omega)
  -- the second operand, and how it stands to the first
  have hy : ∃ s' M E, FloatKind.f64.decode (floatOfInt .f64 (if s then -(wholeOf s m e : Int) else (wholeOf s m e : Int))) = .number s' M E ∧ ∀ base : Int, base ≤ e → base ≤ E → base ≤ 0 →
      (Ieee.signed s m (e - base).toNat + Ieee.signed (!s') M (E - base).toNat).natAbs ≤ 2 ^ (0 - base).toNat := by
    by_cases hq : wholeOf s m e = 0
    · refine ⟨false, 0, -1074, ?_, ?_⟩
      · rw [hq]
        have : (if s then -((0 : Nat) : Int) else ((0 : Nat) : Int)) = 0 := by cases s <;> rfl
        rw [this]
        rfl
      · intro base hb1 hb2 hb3
        have hz : Ieee.signed (!false) 0 ((-1074 : Int) - base).toNat = 0 := by simp [Ieee.signed]
        rw [hz, Int.add_zero, signed_abs]
        unfold wholeOf at hq
        by_cases he : 0 ≤ e
        · have e2 : (-e).toNat = 0 := by omega
          rw [e2, Nat.pow_zero, Nat.div_one] at hq
          have hm : m = 0 := by
            rcases Nat.mul_eq_zero.1 hq with h | h
            · exact h
            · exact absurd h (Nat.ne_of_gt (hpw _))
          rw [hm, Nat.zero_mul]; exact Nat.zero_le _
        · have e2 : e.toNat = 0 := by omega
          rw [e2, Nat.pow_zero, Nat.mul_one] at hq
          have hm : m < 2 ^ (-e).toNat := by
            rcases Nat.div_eq_zero_iff.1 hq with h | h
            · exact absurd h (Nat.ne_of_gt (hpw _))
            · exact h
          calc m * 2 ^ (e - base).toNat ≤ 2 ^ (-e).toNat * 2 ^ (e - base).toNat := Nat.mul_le_mul_right _ (Nat.le_of_lt hm)
            _ = 2 ^ (0 - base).toNat := by rw [← Nat.pow_add]; congr 1; omega
    · have hfi : floatOfInt .f64 (if s then -(wholeOf s m e : Int) else (wholeOf s m e : Int)) = FloatKind.f64.encode (.number s (wholeOf s m e) 0) := by
        unfold floatOfInt FloatKind.nearest
        cases s
        · rw [if_neg (by decide)]
          have a1 : decide (((wholeOf false m e : Nat) : Int) < 0) = false := decide_eq_false (by omega)
          rw [a1, Int.natAbs_natCast]
        · rw [if_pos rfl]
          have a1 : decide (-((wholeOf true m e : Nat) : Int) < 0) = true := decide_eq_true (by omega)
          rw [a1, Int.natAbs_neg, Int.natAbs_natCast]
      refine ⟨s, _, _, by rw [hfi]; exact decode_int hq hw, ?_⟩
      intro base hb1 hb2 hb3
      have hl : (wholeOf s m e).log2 < 52 := (Nat.log2_lt hq).2 hw
      generalize hwv : wholeOf s m e = q at *
      have key2 : q * 2 ^ (52 - q.log2) * 2 ^ (0 - ((52 - q.log2 : Nat) : Int) - base).toNat = q * 2 ^ (0 - base).toNat := by
        rw [Nat.mul_assoc, ← Nat.pow_add]; congr 2; omega
      have hle : q * 2 ^ (0 - base).toNat ≤ m * 2 ^ (e - base).toNat ∧ m * 2 ^ (e - base).toNat ≤ q * 2 ^ (0 - base).toNat + 2 ^ (0 - base).toNat := by
        unfold wholeOf at hwv
        by_cases he : 0 ≤ e
        · have e2 : (-e).toNat = 0 := by omega
          rw [e2, Nat.pow_zero, Nat.div_one] at hwv
          have : q * 2 ^ (0 - base).toNat = m * 2 ^ (e - base).toNat := by
            rw [← hwv, Nat.mul_assoc, ← Nat.pow_add]; congr 2; omega
          exact ⟨Nat.le_of_eq this, by rw [← this]; exact Nat.le_add_right _ _⟩
        · have e2 : e.toNat = 0 := by omega
          rw [e2, Nat.pow_zero, Nat.mul_one] at hwv
          have hsplit : 2 ^ (0 - base).toNat = 2 ^ (-e).toNat * 2 ^ (e - base).toNat := by rw [← Nat.pow_add]; congr 1; omega
          have hdm := Nat.div_add_mod m (2 ^ (-e).toNat)
          have hml := Nat.mod_lt m (hpw (-e).toNat)
          rw [hwv] at hdm
          rw [hsplit]
          generalize 2 ^ (-e).toNat = G at *
          generalize 2 ^ (e - base).toNat = T at *
          have g1 : q * (G * T) = G * q * T := by rw [← Nat.mul_assoc, Nat.mul_comm q G]
          rw [g1]
          constructor
          · exact Nat.mul_le_mul_right _ (by omega)
          · rw [← Nat.add_mul]; exact Nat.mul_le_mul_right _ (by omega)
      generalize hA : m * 2 ^ (e - base).toNat = A at *
      generalize hQ : q * 2 ^ (0 - base).toNat = Q at *
      generalize 2 ^ (0 - base).toNat = T at *
      have hsA : Ieee.signed s m (e - base).toNat = if s then -(A : Int) else (A : Int) := by
        unfold Ieee.signed; rw [Nat.shiftLeft_eq, hA]
      have hsQ : Ieee.signed (!s) (q * 2 ^ (52 - q.log2)) (0 - ((52 - q.log2 : Nat) : Int) - base).toNat = if s then (Q : Int) else -(Q : Int) := by
        unfold Ieee.signed; rw [Nat.shiftLeft_eq, key2]; cases s <;> rfl
      rw [hsA, hsQ]
      cases s
      · rw [if_neg (by decide), if_neg (by decide)]; omega
      · rw [if_pos rfl, if_pos rfl]; omega
  obtain ⟨s', M, E, hdy, hall⟩ := hy
  intro r hr
  have hyv : fv .f64 (floatOfInt .f64 (if s then -(wholeOf s m e : Int) else (wholeOf s m e : Int))) = some (floatOfInt .f64 (if s then -(wholeOf s m e : Int) else (wholeOf s m e : Int))) := fv_some (by rw [hdy]; rfl)
  rw [hx, hyv] at hr
  have ef : fop .sub .f64 (some x) (some (floatOfInt .f64 (if s then -(wholeOf s m e : Int) else (wholeOf s m e : Int)))) = ((FloatKind.f64.decode x).sum (FloatKind.f64.decode (floatOfInt .f64 (if s then -(wholeOf s m e : Int) else (wholeOf s m e : Int)))).opposite).map FloatKind.f64.format.write := rfl
  rw [ef, hd, hdy] at hr
  have hr := Option.some.inj hr
  -- a base that is at most 0: both are scaled by it
  have hbd : bd (Ieee.signed s m (e - min e E).toNat + Ieee.signed (!s') M (E - min e E).toNat).natAbs (min e E) 0 := by
    by_cases hb : min e E ≤ 0
    · exact .inr ⟨hb, hall (min e E) (by omega) (by omega) hb⟩
    · -- both places above 0: scale by base 0
      have h0 := hall 0 (by omega) (by omega) (by omega)
      have sc : ∀ (s : Bool) (m : Nat) (i : Int), min e E ≤ i → Ieee.signed s m (i - 0).toNat = Ieee.signed s m (i - min e E).toNat * (2 ^ (min e E).toNat : Nat) := by
        intro s m i hi
        have : (i - 0).toNat = (i - min e E).toNat + (min e E).toNat := by omega
        unfold Ieee.signed
        rw [this, Nat.shiftLeft_eq, Nat.shiftLeft_eq, Nat.pow_add, ← Nat.mul_assoc]
        cases s
        · rw [if_neg (by decide), if_neg (by decide)]; exact Int.natCast_mul _ _
        · rw [if_pos rfl, if_pos rfl, Int.neg_mul, ← Int.natCast_mul]
      rw [sc s m e (by omega), sc (!s') M E (by omega), ← Int.add_mul, Int.natAbs_mul, Int.natAbs_natCast] at h0
      generalize (Ieee.signed s m (e - min e E).toNat + Ieee.signed (!s') M (E - min e E).toNat).natAbs = T at *
      have hz : (0 - 0 : Int).toNat = 0 := rfl
      rw [hz, Nat.pow_zero] at h0
      have hg : 2 ≤ 2 ^ (min e E).toNat := by
        have : 1 ≤ (min e E).toNat := by omega
        calc 2 = 2 ^ 1 := rfl
          _ ≤ _ := Nat.pow_le_pow_right (by omega) this
      left
      rcases Nat.eq_zero_or_pos T with h | h
      · exact h
      · have := Nat.mul_le_mul h hg; omega
  obtain ⟨m', e', g1, g2⟩ := nearest_bd FloatKind.f64.format (if Ieee.signed s m (e - min e E).toNat + Ieee.signed (!s') M (E - min e E).toNat = 0 then s && !s' else decide (Ieee.signed s m (e - min e E).toNat + Ieee.signed (!s') M (E - min e E).toNat < 0)) hbd r1 r2
  exact ⟨_, m', e', by rw [← hr]; exact g1, g2⟩

theorem Bd.neg {v : Option Nat} {t : Int} (h : Bd .f64 v t) : Bd .f64 (fneg v) t := by
  intro b hb
  cases v with
  | none => cases hb
  | some x =>
    obtain ⟨s, m, e, hd, hm⟩ := h x rfl
    have hb : Op.negFloat .f64 x = b := Option.some.inj hb
    have h1 : FloatKind.f64.decode (b % 9223372036854775808) = Dabs (FloatKind.f64.decode b) := read_abs Ieee.double b
    have h2 : FloatKind.f64.decode (x % 9223372036854775808) = Dabs (FloatKind.f64.decode x) := read_abs Ieee.double x
    have h3 := neg_mod x
    rw [hb] at h3
    rw [h3, h2, hd] at h1
    cases hdb : FloatKind.f64.decode b with
    | nan s t => rw [hdb] at h1; cases h1
    | infinity s => rw [hdb] at h1; cases h1
    | number s' m' e' =>
      rw [hdb] at h1
      have h1 : Ieee.Datum.number false m e = .number false m' e' := h1
      obtain ⟨_, h4, h5⟩ := Ieee.Datum.number.inj h1
      exact ⟨s', m', e', rfl, by rw [← h4, ← h5]; exact hm⟩

theorem fv_num {b : Nat} {s : Bool} {m : Nat} {e : Int} (h : FloatKind.f64.decode b = .number s m e) : fv .f64 b = some b := fv_some (by rw [h]; rfl)
theorem bd_half : Bd .f64 cHalf 0 := Bd.const (s := false) (m := 4503599627370496) (e := -53) (by kernel_rfl) (.inr ⟨by omega, by decide +kernel⟩)
theorem bd_one : Bd .f64 cOne 0 := Bd.const (s := false) (m := 4503599627370496) (e := -52) (by kernel_rfl) (.inr ⟨by omega, by decide +kernel⟩)
theorem bd_tau : Bd .f64 cTau 3 := Bd.const (s := false) (m := 7074237752028440) (e := -50) (by kernel_rfl) (.inr ⟨by omega, by decide +kernel⟩)

theorem bd_share {x : Option Nat} {n : Int} (h : Bd .f64 (fop .sub .f64 x (fv .f64 (floatOfInt .f64 n))) 0) : Bd .f64 (shareV x n) 1 := by
  unfold shareV
  split
  · exact Bd.add (c := 0) h bd_one (by omega) (by omega)
  · exact Bd.mono h (by omega)

theorem bd_sinP_step {u : Option Nat} {j : Nat} {b : Int} {c n : Nat} {e : Int} (hu : Bd .f64 u 12) (hp : Bd .f64 (sinP u j) b) (hc : fv .f64 (floatOfInt .f64 (2 * (8 - (j : Int)) * (2 * (8 - (j : Int)) + 1))) = some c) (hd : FloatKind.f64.decode c = .number false n e) (hn : n ≠ 0) (hq : 0 ≤ e + n.log2) (hq' : e + n.log2 ≤ 12) (hb0 : 0 ≤ b) (hb : b ≤ 500) :
    Bd .f64 (sinP u (j + 1)) (12 + b - (e + n.log2) + 1) := by
  show Bd .f64 (fop .sub .f64 cOne (fop .quo .f64 (fop .mul .f64 u (sinP u j)) (fv .f64 (floatOfInt .f64 (2 * (8 - (j : Int)) * (2 * (8 - (j : Int)) + 1)))))) _
  rw [hc]
  have h1 := Bd.mul hu hp (by omega) (by omega)
  have h2 := Bd.quo h1 hd hn (by omega) (by omega)
  exact Bd.sub (Bd.mono bd_one (by omega)) h2 (by omega) (by omega)

theorem bd_sinP {u : Option Nat} (hu : Bd .f64 u 12) : Bd .f64 (sinP u 8) 100 := by
  have s0 : Bd .f64 (sinP u 0) 0 := bd_one
  have s1 := bd_sinP_step (c := 4643492690795692032) (n := 4785074604081152) (e := -44) hu s0 (by kernel_rfl) (by kernel_rfl) (by omega) (by decide +kernel) (by decide +kernel) (by decide +kernel) (by decide +kernel)
  have s2 := bd_sinP_step (c := 4641592734702895104) (n := 7388718138654720) (e := -45) hu (Bd.mono s1 (by decide +kernel : _ ≤ (5 : Int))) (by kernel_rfl) (by kernel_rfl) (by omega) (by decide +kernel) (by decide +kernel) (by decide +kernel) (by decide +kernel)
  have s3 := bd_sinP_step (c := 4639692778610098176) (n := 5488762045857792) (e := -45) hu (Bd.mono s2 (by decide +kernel : _ ≤ (11 : Int))) (by kernel_rfl) (by kernel_rfl) (by omega) (by decide +kernel) (by decide +kernel) (by decide +kernel) (by decide +kernel)
  have s4 := bd_sinP_step (c := 4637440978796412928) (n := 7740561859543040) (e := -46) hu (Bd.mono s3 (by decide +kernel : _ ≤ (17 : Int))) (by kernel_rfl) (by kernel_rfl) (by omega) (by decide +kernel) (by decide +kernel) (by decide +kernel) (by decide +kernel)
  have s5 := bd_sinP_step (c := 4634766966517661696) (n := 5066549580791808) (e := -46) hu (Bd.mono s4 (by decide +kernel : _ ≤ (24 : Int))) (by kernel_rfl) (by kernel_rfl) (by omega) (by decide +kernel) (by decide +kernel) (by decide +kernel) (by decide +kernel)
  have s6 := bd_sinP_step (c := 4631107791820423168) (n := 5910974510923776) (e := -47) hu (Bd.mono s5 (by decide +kernel : _ ≤ (31 : Int))) (by kernel_rfl) (by kernel_rfl) (by omega) (by decide +kernel) (by decide +kernel) (by decide +kernel) (by decide +kernel)
  have s7 := bd_sinP_step (c := 4626322717216342016) (n := 5629499534213120) (e := -48) hu (Bd.mono s6 (by decide +kernel : _ ≤ (39 : Int))) (by kernel_rfl) (by kernel_rfl) (by omega) (by decide +kernel) (by decide +kernel) (by decide +kernel) (by decide +kernel)
  have s8 := bd_sinP_step (c := 4618441417868443648) (n := 6755399441055744) (e := -50) hu (Bd.mono s7 (by decide +kernel : _ ≤ (48 : Int))) (by kernel_rfl) (by kernel_rfl) (by omega) (by decide +kernel) (by decide +kernel) (by decide +kernel) (by decide +kernel)
  exact Bd.mono s8 (by decide +kernel)

theorem bd_sinCore {f : Option Nat} (h : Bd .f64 f 3) : Bd .f64 (sinCore f) 106 := by
  unfold sinCore
  have hz := Bd.mul h bd_tau (by omega) (by omega)
  have hu := Bd.mul hz hz (by omega) (by omega)
  exact Bd.mul hz (bd_sinP hu) (by omega) (by omega)
theorem bd_fold {f : Option Nat} {t : Int} (h : Bd .f64 f t) (h0 : 0 ≤ t) (h1 : t ≤ 100) : Bd .f64 (foldV f) (t + 1) := by
  unfold foldV
  split
  · exact Bd.sub (Bd.mono bd_half h0) h (by omega) (by omega)
  · exact Bd.mono h (by omega)
theorem bd_sinF {f : Option Nat} (h : Bd .f64 f 1) : Bd .f64 (sinF f) 106 := by
  unfold sinF
  split
  · exact Bd.neg (bd_sinCore (bd_fold (Bd.sub (c := 1) h (Bd.mono bd_half (by omega)) (by omega) (by omega)) (by omega) (by omega)))
  · exact bd_sinCore (Bd.mono (bd_fold h (by omega) (by omega)) (by omega))

end Go.Proofs.Ytplngjbllllanaa
