/- Angles, plainly: signs and zeros after widening; the tangent is at most 1, and so the angle is small. -/
import Derived.Test.YtplngjbllllanaaAng
import Derived.Test.YtplngjbllllanaaFcs
namespace Go.Proofs.Ytplngjbllllanaa
open Go Go.RowKit Go.Proofs.Ytplngjbllllanaa.Flo

/-- a number against zero -/
theorem sign_num {k : FloatKind} {x : Nat} {s : Bool} {m : Nat} {e : Int} (hd : k.decode x = .number s m e) :
    (k.format.order x 0 == some .eq) = decide (m = 0) ∧ (k.format.order x 0 == some .lt) = (s && decide (m ≠ 0)) := by
  have hz : ∃ l, k.decode 0 = .number false 0 l := by cases k; exact ⟨-149, rfl⟩; exact ⟨-1074, rfl⟩
  obtain ⟨l, hl⟩ := hz
  have ho : k.format.order x 0 = some (compare (Ieee.signed s m (e - min e l).toNat) (Ieee.signed false 0 (l - min e l).toNat)) := by
    have h2 : k.format.order x 0 = (k.decode x).order (k.decode 0) := rfl
    rw [h2, hd, hl]; rfl
  have h0 : Ieee.signed false 0 (l - min e l).toNat = 0 := by simp [Ieee.signed]
  rw [ho, h0]
  have hs : Ieee.signed s m (e - min e l).toNat = if s then -((m * 2 ^ (e - min e l).toNat : Nat) : Int) else ((m * 2 ^ (e - min e l).toNat : Nat) : Int) := by
    unfold Ieee.signed; rw [Nat.shiftLeft_eq]
  rw [hs]
  have hp := Nat.two_pow_pos (e - min e l).toNat
  by_cases hm : m = 0
  · subst hm
    rw [Nat.zero_mul]
    cases s
    · exact ⟨rfl, rfl⟩
    · exact ⟨rfl, rfl⟩
  · have hA : 0 < m * 2 ^ (e - min e l).toNat := Nat.mul_pos (Nat.pos_of_ne_zero hm) hp
    generalize m * 2 ^ (e - min e l).toNat = A at *
    rw [decide_eq_false hm, decide_eq_true hm]
    cases s
    · rw [if_neg (by decide), cmp_gt (by omega)]; exact ⟨rfl, rfl⟩
    · rw [if_pos rfl, cmp_lt (by omega)]; exact ⟨rfl, rfl⟩

/-- a finite 32-bit float, widened: what both read as -/
theorem wide_num {x : Nat} (hf : isFin .f32 x = true) : ∃ W s m e m' e', (∀ w, convR w .f32 x .f64 = W) ∧ convD .f32 x .f64 = 0 ∧ W < 18446744073709551616 ∧ isFin .f64 W = true ∧ FloatKind.f32.decode x = .number s m e ∧ FloatKind.f64.decode W = .number s m' e' ∧ (m' = 0 ↔ m = 0) := by
  cases hd : FloatKind.f32.decode x with
  | nan s t => unfold isFin at hf; rw [hd] at hf; cases hf
  | infinity s => unfold isFin at hf; rw [hd] at hf; cases hf
  | number s m e =>
    have hW := widen_number hd
    have hR : ∀ w, convR w .f32 x .f64 = FloatKind.f64.encode (.number s m e) := fun w => by unfold convR; rw [hW]; rfl
    have hD : convD .f32 x .f64 = 0 := by unfold convD; rw [hW]; rfl
    have hfW : isFin .f64 (FloatKind.f64.encode (.number s m e)) = true := by have := wide_finite default x; rw [hR] at this; rw [this, hf]
    have hlt : FloatKind.f64.encode (.number s m e) < 18446744073709551616 := FloatKind.f64.format.write_lt _
    obtain ⟨h1, h2, h3, _⟩ := decode32_number hd
    by_cases h0 : m = 0
    · subst h0
      exact ⟨_, s, 0, e, 0, -1074, hR, hD, hlt, hfW, rfl, decode_encode64_zero, Iff.rfl⟩
    · refine ⟨_, s, m, e, _, _, hR, hD, hlt, hfW, rfl, decode_encode64 h0 h1 h2 h3, ?_⟩
      have hp := Nat.two_pow_pos (52 - m.log2)
      constructor
      · intro h; rcases Nat.mul_eq_zero.1 h with h | h
        · exact h
        · omega
      · intro h; exact absurd h h0

/-- at least 2 ^ q -/
def Lo (v : Option Nat) (q : Int) : Prop := ∀ b, v = some b → ∃ s m e, FloatKind.f64.decode b = .number s m e ∧ m ≠ 0 ∧ q ≤ e + m.log2
/-- not below 0 -/
def Nn (v : Option Nat) : Prop := ∀ b, v = some b → ∃ s m e, FloatKind.f64.decode b = .number s m e ∧ (s = false ∨ m = 0)

theorem cut_ge (s : Bool) (n d : Nat) : n / 2 ^ d ≤ Ieee.Toward.even.cut s n d := by
  unfold Ieee.Toward.cut
  simp only [Nat.shiftLeft_eq, Nat.one_mul]
  refine Nat.le_trans (Nat.div_le_div_left (Nat.pow_le_pow_right (by omega) (Nat.min_le_left _ _)) (Nat.two_pow_pos _)) (Nat.le_add_right _ _)

theorem rung_ge (s : Bool) {m : Nat} {e t : Int} (h : t ≤ e + m.log2) (h0 : m ≠ 0) (ht : -1022 ≤ t) :
    (t + 1023).toNat * 4503599627370496 ≤ rungOf Ieee.double s m e := by
  obtain ⟨l1, l2⟩ := log2_bounds h0
  unfold rungOf
  simp only [Nat.shiftLeft_eq, double_least, double_bin]
  generalize m.log2 = lg at *
  have hf : (Ieee.double.fractionBits : Int) = 52 := rfl
  rw [hf, Int.max_eq_left (by omega)]
  generalize hla : e + (lg : Int) - 52 = last at *
  have hk := cut_ge s (m * 2 ^ (e - last).toNat) (last - e).toNat
  have hn : 4503599627370496 ≤ m * 2 ^ (e - last).toNat / 2 ^ (last - e).toNat := by
    rw [Nat.le_div_iff_mul_le (Nat.two_pow_pos _)]
    calc 4503599627370496 * 2 ^ (last - e).toNat = 2 ^ 52 * 2 ^ (last - e).toNat := rfl
      _ = 2 ^ lg * 2 ^ (e - last).toNat := by rw [← Nat.pow_add, ← Nat.pow_add]; congr 1; omega
      _ ≤ _ := Nat.mul_le_mul_right _ l1
  have h1 : (t + 1023).toNat ≤ (last - (-1074)).toNat + 1 := by omega
  calc (t + 1023).toNat * 4503599627370496 ≤ ((last - (-1074)).toNat + 1) * 4503599627370496 := Nat.mul_le_mul_right _ h1
    _ = (last - (-1074)).toNat * 4503599627370496 + 4503599627370496 := by rw [Nat.add_mul, Nat.one_mul]
    _ ≤ _ := Nat.add_le_add_left (Nat.le_trans hn hk) _

theorem nearest_lo (s : Bool) {m : Nat} {e t t' : Int} (h : t ≤ e + m.log2) (h0 : m ≠ 0) (ht : -1022 ≤ t) (hb : bd m e t') (h1 : -1022 ≤ t') (h2 : t' ≤ 1023) :
    ∃ m' e', FloatKind.f64.decode (Ieee.double.nearest s m e) = .number s m' e' ∧ m' ≠ 0 ∧ t ≤ e' + m'.log2 := by
  obtain ⟨r1, r2⟩ := f64_room h1 h2
  have hr := rung_le Ieee.double s h0 hb r1
  have hg := rung_ge s h h0 ht
  have hi : rungOf Ieee.double s m e < Ieee.double.infRung := Nat.lt_of_le_of_lt hr r2
  rw [nearest_rung Ieee.double s e h0, Nat.min_eq_left (Nat.le_of_lt hi)]
  show ∃ m' e', Ieee.double.read _ = _ ∧ _
  rw [read_wordf Ieee.double s _ hi]
  generalize rungOf Ieee.double s m e = r at *
  have hB : ¬ r < Ieee.double.binade := by rw [double_bin]; omega
  rw [if_neg hB, double_bin, double_least]
  refine ⟨_, _, rfl, by omega, ?_⟩
  have hl : (4503599627370496 + r % 4503599627370496).log2 = 52 := by
    have hne : 4503599627370496 + r % 4503599627370496 ≠ 0 := by omega
    have a1 : (4503599627370496 + r % 4503599627370496).log2 < 53 := (Nat.log2_lt hne).2 (by
      have : 2 ^ 53 = 9007199254740992 := rfl
      rw [this]; omega)
    have a2 : 52 ≤ (4503599627370496 + r % 4503599627370496).log2 := (Nat.le_log2 hne).2 (by
      have : 2 ^ 52 = 4503599627370496 := rfl
      rw [this]; omega)
    omega
  rw [hl]
  omega

theorem one_num : FloatKind.f64.decode 4607182418800017408 = .number false 4503599627370496 (-52) := rfl
theorem one_some : cOne = some 4607182418800017408 := by kernel_rfl

/-- 1 + v, v not below 0 -/
theorem one_add {v : Option Nat} {c : Int} (hb : Bd .f64 v c) (hn : Nn v) (h0 : 0 ≤ c) (h1 : c ≤ 1000) : Lo (fop .add .f64 cOne v) 0 ∧ Nn (fop .add .f64 cOne v) := by
  cases v with
  | none =>
    rw [one_some]
    exact ⟨fun _ h => (by cases h), fun _ h => (by cases h)⟩
  | some b =>
    obtain ⟨s, m, e, hd, hbd⟩ := hb b rfl
    obtain ⟨s', m', e', hd', hsm⟩ := hn b rfl
    rw [hd] at hd'
    obtain ⟨rfl, rfl, rfl⟩ := Ieee.Datum.number.inj hd'
    rw [one_some]
    have ef : fop .add .f64 (some 4607182418800017408) (some b) = ((FloatKind.f64.decode 4607182418800017408).sum (FloatKind.f64.decode b)).map FloatKind.f64.format.write := rfl
    rw [ef, one_num, hd]
    have hb1 : bd 4503599627370496 (-52) c := by
      refine .inr ⟨by omega, ?_⟩
      have h52 : (4503599627370496 : Nat) = 2 ^ 52 := rfl
      rw [h52]
      exact Nat.pow_le_pow_right (by omega) (by omega)
    have hbs := bd_sum (s := false) (s' := s) hb1 hbd
    generalize hbase : min (-52 : Int) e = base at *
    have hS1 : Ieee.signed false 4503599627370496 (-52 - base).toNat = ((4503599627370496 * 2 ^ (-52 - base).toNat : Nat) : Int) := by unfold Ieee.signed; rw [Nat.shiftLeft_eq]; rfl
    have hS2 : 0 ≤ Ieee.signed s m (e - base).toNat := by
      unfold Ieee.signed
      rcases hsm with rfl | rfl
      · rw [if_neg (by decide)]; exact Int.natCast_nonneg _
      · rw [Nat.shiftLeft_eq, Nat.zero_mul]; cases s <;> decide
    have hge : 2 ^ (0 - base).toNat ≤ 4503599627370496 * 2 ^ (-52 - base).toNat := by
      have : 4503599627370496 * 2 ^ (-52 - base).toNat = 2 ^ (0 - base).toNat := by
        have h52 : (4503599627370496 : Nat) = 2 ^ 52 := rfl
        rw [h52, ← Nat.pow_add]; congr 1; omega
      exact Nat.le_of_eq this.symm
    have hpos := Nat.two_pow_pos (0 - base).toNat
    generalize hT : Ieee.signed false 4503599627370496 (-52 - base).toNat + Ieee.signed s m (e - base).toNat = T at *
    have hTge : ((2 ^ (0 - base).toNat : Nat) : Int) ≤ T := by
      rw [← hT, hS1]
      have : ((2 ^ (0 - base).toNat : Nat) : Int) ≤ ((4503599627370496 * 2 ^ (-52 - base).toNat : Nat) : Int) := Int.ofNat_le.2 hge
      omega
    have hne : T.natAbs ≠ 0 := by omega
    have hlo : (0 : Int) ≤ base + T.natAbs.log2 := by
      have : (0 - base).toNat ≤ T.natAbs.log2 := (Nat.le_log2 hne).2 (by omega)
      omega
    obtain ⟨m2, e2, g1, g2, g3⟩ := nearest_lo false hlo hne (by omega) hbs (by omega) (by omega)
    have hsum : ((Ieee.Datum.number false 4503599627370496 (-52)).sum (.number s m e)).map FloatKind.f64.format.write = some (Ieee.double.nearest false T.natAbs base) := by
      unfold Ieee.Datum.sum
      simp only [hbase, hT]
      have n1 : ¬ T = 0 := by omega
      have n2 : decide (T < 0) = false := decide_eq_false (by omega)
      rw [if_neg n1, n2]
      rfl
    rw [hsum]
    constructor
    · intro r hr; rw [← Option.some.inj hr]; exact ⟨false, m2, e2, g1, g2, g3⟩
    · intro r hr; rw [← Option.some.inj hr]; exact ⟨false, m2, e2, g1, .inl rfl⟩

theorem nn_sq {t : Option Nat} {a : Int} (h : Bd .f64 t a) (h1 : -500 ≤ a) (h2 : a ≤ 500) : Nn (fop .mul .f64 t t) := by
  intro r hr
  cases t with
  | none => cases hr
  | some x =>
    obtain ⟨s, m, i, d1, b1⟩ := h x rfl
    have e : fop .mul .f64 (some x) (some x) = ((FloatKind.f64.decode x).product (FloatKind.f64.decode x)).map FloatKind.f64.format.write := rfl
    rw [e, d1] at hr
    have hr : FloatKind.f64.format.nearest (s ^^ s) (m * m) (i + i) = r := Option.some.inj hr
    obtain ⟨r1, r2⟩ := f64_room (t := a + a) (by omega) (by omega)
    obtain ⟨m', e', g1, _⟩ := nearest_bd FloatKind.f64.format (s ^^ s) (bd_mul b1 b1) r1 r2
    exact ⟨_, m', e', by rw [← hr]; exact g1, .inl (by cases s <;> rfl)⟩

theorem nn_sqrt {x : Option Nat} {a : Int} (h : Bd .f64 x a) (h1 : -1000 ≤ a) (h2 : a ≤ 1000) : Nn (fsq x) := by
  have hb := Bd.sqrt h h1 h2
  intro r hr
  obtain ⟨s2, m2, e2, hd2, _⟩ := hb r hr
  refine ⟨s2, m2, e2, hd2, ?_⟩
  cases x with
  | none => cases hr
  | some x =>
    obtain ⟨s, m, i, d1, b1⟩ := h x rfl
    have e : fsq (some x) = ((FloatKind.f64.decode x).root 54).map FloatKind.f64.format.write := rfl
    rw [e, d1] at hr
    by_cases h0 : m = 0
    · subst h0
      simp only [Ieee.Datum.root, if_true] at hr
      have hr : FloatKind.f64.encode (.number s 0 i) = r := Option.some.inj hr
      rw [← hr, decode_encode64_zero] at hd2
      obtain ⟨_, h, _⟩ := Ieee.Datum.number.inj hd2
      exact .inr h.symm
    · simp only [Ieee.Datum.root, if_neg h0] at hr
      cases s with
      | true => simp at hr
      | false =>
        simp only [Bool.false_eq_true, if_false] at hr
        have hr := Option.some.inj hr
        left
        -- the word's sign is the number's
        have key : ∀ (M : Nat) (E : Int), FloatKind.f64.decode (Ieee.double.nearest false M E) = .number s2 m2 e2 → s2 = false := by
          intro M E hk
          have hword : ∃ R, R ≤ Ieee.double.infRung ∧ Ieee.double.nearest false M E = Ieee.double.word false R := by
            unfold Ieee.Format.nearest
            by_cases hM : M = 0
            · rw [if_pos hM]; exact ⟨0, Nat.zero_le _, rfl⟩
            · rw [if_neg hM]; exact ⟨_, Nat.min_le_right _ _, rfl⟩
          obtain ⟨R, hR, hw⟩ := hword
          rw [hw] at hk
          have hk : Ieee.double.read R = .number s2 m2 e2 := hk
          have hlt : R < Ieee.double.signWeight := Nat.lt_of_le_of_lt hR Ieee.double.infRung_lt
          have hab := read_abs Ieee.double R
          rw [Nat.mod_eq_of_lt hlt, hk] at hab
          have hab : Ieee.Datum.number s2 m2 e2 = .number false m2 e2 := hab
          exact (Ieee.Datum.number.inj hab).1
        exact key _ _ (by rw [show Ieee.double.nearest false _ _ = r from hr]; exact hd2)

/-- a quotient by what is at least 2 ^ q -/
theorem Bd.quo_lo {x y : Option Nat} {a q : Int} (h : Bd .f64 x a) (hy : Lo y q) (h1 : -1022 ≤ a - q) (h2 : a - q ≤ 1023) : Bd .f64 (fop .quo .f64 x y) (a - q) := by
  cases y with
  | none => cases x <;> exact Bd.none
  | some c =>
    obtain ⟨s, n, j, hd, hn, hq⟩ := hy c rfl
    intro r hr
    cases x with
    | none => cases hr
    | some x =>
      obtain ⟨s1, m, i, d1, b1⟩ := h x rfl
      have e : fop .quo .f64 (some x) (some c) = ((FloatKind.f64.decode x).quotient 54 (FloatKind.f64.decode c)).map FloatKind.f64.format.write := rfl
      rw [e, d1, hd] at hr
      simp only [Ieee.Datum.quotient, if_neg hn] at hr
      have hr := Option.some.inj hr
      obtain ⟨r1, r2⟩ := f64_room h1 h2
      obtain ⟨m', e', g1, g2⟩ := nearest_bd FloatKind.f64.format (s1 ^^ s) (bd_mono (bd_quo (j := j) hn b1) (by omega : _ ≤ a - q)) r1 r2
      exact ⟨_, m', e', by rw [← hr]; exact g1, g2⟩

/-- a quotient of what is not greater -/
theorem quo_one {a b : Nat} {s s' : Bool} {m n : Nat} {i j : Int} (ha : FloatKind.f64.decode a = .number s m i) (hb : FloatKind.f64.decode b = .number s' n j) (hn : n ≠ 0) (hle : m <<< (i - min i j).toNat ≤ n <<< (j - min i j).toNat) : Bd .f64 (fop .quo .f64 (fv .f64 a) (fv .f64 b)) 0 := by
  rw [fv_num ha, fv_num hb]
  intro r hr
  have e : fop .quo .f64 (some a) (some b) = ((FloatKind.f64.decode a).quotient 54 (FloatKind.f64.decode b)).map FloatKind.f64.format.write := rfl
  rw [e, ha, hb] at hr
  simp only [Ieee.Datum.quotient, if_neg hn] at hr
  have hr := Option.some.inj hr
  obtain ⟨r1, r2⟩ := f64_room (t := 0) (by omega) (by omega)
  have hbd : bd (2 * ((m <<< (54 + n.log2 - m.log2)) / n) + ((m <<< (54 + n.log2 - m.log2)) % n != 0).toNat) (i - j - (54 + n.log2 - m.log2 : Nat) - 1) 0 := by
    by_cases h0 : m = 0
    · subst h0
      left
      rw [Nat.shiftLeft_eq, Nat.zero_mul, Nat.zero_div, Nat.zero_mod]
      rfl
    · have hij : i - j ≤ (n.log2 : Int) - m.log2 := by
        rw [Nat.shiftLeft_eq, Nat.shiftLeft_eq] at hle
        obtain ⟨l1, _⟩ := log2_bounds h0
        obtain ⟨_, l2⟩ := log2_bounds hn
        have hlt : 2 ^ (m.log2 + (i - min i j).toNat) < 2 ^ (n.log2 + 1 + (j - min i j).toNat) := by
          rw [Nat.pow_add, Nat.pow_add]
          calc 2 ^ m.log2 * 2 ^ (i - min i j).toNat ≤ m * 2 ^ (i - min i j).toNat := Nat.mul_le_mul_right _ l1
            _ ≤ n * 2 ^ (j - min i j).toNat := hle
            _ < 2 ^ (n.log2 + 1) * 2 ^ (j - min i j).toNat := Nat.mul_lt_mul_of_pos_right l2 (Nat.two_pow_pos _)
        have := (Nat.pow_lt_pow_iff_right (by omega : 1 < 2)).1 hlt
        omega
      generalize hmore : 54 + n.log2 - m.log2 = more
      have hE : 0 ≤ (more : Int) + j - i := by omega
      have hD : m <<< more ≤ n * 2 ^ ((more : Int) + j - i).toNat := by
        rw [Nat.shiftLeft_eq, Nat.shiftLeft_eq] at hle
        rw [Nat.shiftLeft_eq]
        have hc : m * 2 ^ more * 2 ^ (i - min i j).toNat ≤ n * 2 ^ ((more : Int) + j - i).toNat * 2 ^ (i - min i j).toNat := by
          calc m * 2 ^ more * 2 ^ (i - min i j).toNat = m * 2 ^ (i - min i j).toNat * 2 ^ more := by rw [Nat.mul_assoc, Nat.mul_comm (2 ^ more), ← Nat.mul_assoc]
            _ ≤ n * 2 ^ (j - min i j).toNat * 2 ^ more := Nat.mul_le_mul_right _ hle
            _ = n * 2 ^ ((more : Int) + j - i).toNat * 2 ^ (i - min i j).toNat := by rw [Nat.mul_assoc, Nat.mul_assoc, ← Nat.pow_add, ← Nat.pow_add]; congr 2; omega
        exact Nat.le_of_mul_le_mul_right hc (Nat.two_pow_pos _)
      generalize m <<< more = D at *
      generalize hX : ((more : Int) + j - i).toNat = X at *
      right
      refine ⟨by omega, ?_⟩
      have e : (0 - (i - j - (more : Int) - 1)).toNat = X + 1 := by omega
      rw [e, Nat.pow_succ]
      by_cases hr : D % n = 0
      · rw [hr]
        have : D / n ≤ 2 ^ X := Nat.div_le_of_le_mul hD
        simp; omega
      · have hlt : D < n * 2 ^ X := by
          refine Nat.lt_of_le_of_ne hD (fun he => hr ?_)
          rw [he, Nat.mul_mod_right]
        have : D / n < 2 ^ X := Nat.div_lt_of_lt_mul hlt
        have hb : (D % n != 0).toNat ≤ 1 := by cases (D % n != 0) <;> simp
        omega
  obtain ⟨m', e', g1, g2⟩ := nearest_bd FloatKind.f64.format (s ^^ s') hbd r1 r2
  exact ⟨_, m', e', by rw [← hr]; exact g1, g2⟩

theorem bd_tV {t : Option Nat} (h : Bd .f64 t 0) : Bd .f64 (tV t) 0 := by
  unfold tV
  have h1 := Bd.mul h h (by omega) (by omega)
  have h2 := Bd.add (c := 0) bd_one h1 (by omega) (by omega)
  have h3 := Bd.sqrt h2 (by omega) (by omega)
  obtain ⟨lo, _⟩ := one_add h3 (nn_sqrt h2 (by omega) (by omega)) (by omega) (by omega)
  exact Bd.quo_lo h lo (by omega) (by omega)

theorem bd_angP_step {u : Option Nat} {j : Nat} {b : Int} {c n : Nat} {e : Int} (hu : Bd .f64 u 0) (hp : Bd .f64 (angP u j) b) (hc : fv .f64 (floatOfInt .f64 (15 - 2 * (j : Int))) = some c) (hd : FloatKind.f64.decode c = .number false n e) (hn : n ≠ 0) (hq : 0 ≤ e + n.log2) (hq' : e + n.log2 ≤ 12) (hb0 : 0 ≤ b) (hb : b ≤ 500) :
    Bd .f64 (angP u (j + 1)) (b + 1) := by
  show Bd .f64 (fop .sub .f64 (fop .quo .f64 cOne (fv .f64 (floatOfInt .f64 (15 - 2 * (j : Int))))) (fop .mul .f64 u (angP u j))) _
  rw [hc]
  have h1 := Bd.mul hu hp (by omega) (by omega)
  have h2 := Bd.quo bd_one hd hn (by omega) (by omega)
  exact Bd.sub (Bd.mono h2 (by omega)) (Bd.mono h1 (by omega)) (by omega) (by omega)

theorem bd_angP {u : Option Nat} (hu : Bd .f64 u 0) : Bd .f64 (angP u 8) 8 := by
  have s0 : Bd .f64 (angP u 0) 0 := Bd.const (k := .f64) (b := 0) (s := false) (m := 0) (e := -1074) (by kernel_rfl) (.inl rfl)
  have s1 := bd_angP_step (c := 4624633867356078080) (n := 8444249301319680) (e := -49) hu s0 (by kernel_rfl) (by kernel_rfl) (by omega) (by decide +kernel) (by decide +kernel) (by omega) (by omega)
  have s2 := bd_angP_step (c := 4623507967449235456) (n := 7318349394477056) (e := -49) hu s1 (by kernel_rfl) (by kernel_rfl) (by omega) (by decide +kernel) (by decide +kernel) (by omega) (by omega)
  have s3 := bd_angP_step (c := 4622382067542392832) (n := 6192449487634432) (e := -49) hu s2 (by kernel_rfl) (by kernel_rfl) (by omega) (by decide +kernel) (by decide +kernel) (by omega) (by omega)
  have s4 := bd_angP_step (c := 4621256167635550208) (n := 5066549580791808) (e := -49) hu s3 (by kernel_rfl) (by kernel_rfl) (by omega) (by decide +kernel) (by decide +kernel) (by omega) (by omega)
  have s5 := bd_angP_step (c := 4619567317775286272) (n := 7881299347898368) (e := -50) hu s4 (by kernel_rfl) (by kernel_rfl) (by omega) (by decide +kernel) (by decide +kernel) (by omega) (by omega)
  have s6 := bd_angP_step (c := 4617315517961601024) (n := 5629499534213120) (e := -50) hu s5 (by kernel_rfl) (by kernel_rfl) (by omega) (by decide +kernel) (by decide +kernel) (by omega) (by omega)
  have s7 := bd_angP_step (c := 4613937818241073152) (n := 6755399441055744) (e := -51) hu s6 (by kernel_rfl) (by kernel_rfl) (by omega) (by decide +kernel) (by decide +kernel) (by omega) (by omega)
  have s8 := bd_angP_step (c := 4607182418800017408) (n := 4503599627370496) (e := -52) hu s7 (by kernel_rfl) (by kernel_rfl) (by omega) (by decide +kernel) (by decide +kernel) (by omega) (by omega)
  exact s8

theorem bd_flat {t : Option Nat} (h : Bd .f64 t 0) : Bd .f64 (flatV t) 9 := by
  unfold flatV flatOf
  have h3 : Bd .f64 (tVs t 3) 0 := bd_tV (bd_tV (bd_tV h))
  generalize tVs t 3 = t3 at *
  have hu := Bd.mul h3 h3 (by omega) (by omega)
  have hp := Bd.mul h3 (bd_angP hu) (by omega) (by omega)
  have h8 : Bd .f64 cEight 3 := Bd.const (k := .f64) (b := 4620693217682128896) (s := false) (m := 4503599627370496) (e := -49) (by kernel_rfl) (.inr ⟨by omega, by decide +kernel⟩)
  have h9 := Bd.mul h8 hp (by omega) (by omega)
  have hc : cTau = some 4618760256179416344 := by kernel_rfl
  rw [hc]
  have := Bd.quo h9 (c := 4618760256179416344) (s' := false) (n := 7074237752028440) (j := -50) (by kernel_rfl) (by omega) (by decide +kernel) (by decide +kernel)
  exact Bd.mono this (by decide +kernel)

end Go.Proofs.Ytplngjbllllanaa
