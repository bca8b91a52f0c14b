/- Bounds on floats by powers of two: no overflow, so that a narrowing is fixed by the language. -/
import Derived.Test.YtfbapbgiegploaaFlo
namespace Go.Proofs.Ytfbapbgiegploaa.Flo
open Go

/-- the number m * 2 ^ e is at most 2 ^ t -/
def bd (m : Nat) (e t : Int) : Prop := m = 0 ∨ (e ≤ t ∧ m ≤ 2 ^ (t - e).toNat)

theorem bd_log {m : Nat} {e t : Int} (h0 : m ≠ 0) (h : bd m e t) : e + m.log2 ≤ t := by
  rcases h with h | ⟨h1, h2⟩
  · exact absurd h h0
  · have h3 : m.log2 < (t - e).toNat + 1 := (Nat.log2_lt h0).2 (by rw [Nat.pow_succ]; have := Nat.two_pow_pos (t - e).toNat; omega)
    omega
theorem bd_mono {m : Nat} {e t t' : Int} (h : bd m e t) (ht : t ≤ t') : bd m e t' := by
  rcases h with h | ⟨h1, h2⟩
  · exact .inl h
  · exact .inr ⟨by omega, Nat.le_trans h2 (Nat.pow_le_pow_right (by omega) (by omega))⟩

theorem cut_le (s : Bool) (n d : Nat) : Ieee.Toward.even.cut s n d ≤ n / 2 ^ d + 1 := by
  unfold Ieee.Toward.cut
  simp only [Nat.shiftLeft_eq, Nat.one_mul]
  by_cases h : d ≤ n.log2 + 2
  · rw [Nat.min_eq_left h]
    refine Nat.add_le_add_left ?_ _
    cases (decide (2 ^ d < 2 * (n % 2 ^ d)) || (2 ^ d == 2 * (n % 2 ^ d) && n / 2 ^ d % 2 == 1)) <;> simp
  · rw [Nat.min_eq_right (by omega)]
    have h1 : n < 2 ^ (n.log2 + 1) := Nat.lt_log2_self
    have e2 : 2 ^ (n.log2 + 2) = 2 * 2 ^ (n.log2 + 1) := by rw [Nat.pow_succ, Nat.mul_comm]
    have hlt : n < 2 ^ (n.log2 + 2) := by omega
    rw [Nat.div_eq_of_lt hlt, Nat.mod_eq_of_lt hlt]
    have a1 : ¬ 2 ^ (n.log2 + 2) < 2 * n := by omega
    have a2 : (2 ^ (n.log2 + 2) == 2 * n) = false := by rw [beq_eq_false_iff_ne]; omega
    rw [decide_eq_false a1, a2]
    simp
theorem cut_exact (s : Bool) (q d : Nat) : Ieee.Toward.even.cut s (q * 2 ^ d) d = q := by
  by_cases hq : q = 0
  · subst hq
    rw [Nat.zero_mul]
    unfold Ieee.Toward.cut
    simp only [Nat.zero_div, Nat.zero_mod, Nat.mul_zero, Nat.shiftLeft_eq, Nat.one_mul]
    have : (2 ^ min d (Nat.log2 0 + 2) == 0) = false := by rw [beq_eq_false_iff_ne]; exact Nat.ne_of_gt (Nat.two_pow_pos _)
    rw [this]
    simp
  · have hn : q * 2 ^ d ≠ 0 := Nat.mul_ne_zero hq (Nat.ne_of_gt (Nat.two_pow_pos _))
    have hd : d ≤ (q * 2 ^ d).log2 := (Nat.le_log2 hn).2 (Nat.le_mul_of_pos_left _ (Nat.pos_of_ne_zero hq))
    unfold Ieee.Toward.cut
    simp only [Nat.shiftLeft_eq, Nat.one_mul]
    rw [Nat.min_eq_left (by omega), Nat.mul_mod_left, Nat.mul_div_cancel _ (Nat.two_pow_pos _)]
    have : (2 ^ d == 2 * 0) = false := by rw [beq_eq_false_iff_ne]; exact Nat.ne_of_gt (Nat.two_pow_pos _)
    rw [this]
    simp

/-- the rung that the rounding finds, before it is held against infinity's -/
def rungOf (f : Ieee.Format) (s : Bool) (m : Nat) (e : Int) : Nat :=
  let last := max (e + m.log2 - f.fractionBits) f.leastPlace
  (last - f.leastPlace).toNat * f.binade + Ieee.Toward.even.cut s (m <<< (e - last).toNat) (last - e).toNat
theorem nearest_rung (f : Ieee.Format) (s : Bool) {m : Nat} (e : Int) (h0 : m ≠ 0) : f.nearest s m e = f.word s (min (rungOf f s m e) f.infRung) := by
  unfold Ieee.Format.nearest rungOf
  simp only [if_neg h0]

theorem rung_le (f : Ieee.Format) (s : Bool) {m : Nat} {e t : Int} (h0 : m ≠ 0) (h : bd m e t) (ht : f.leastPlace + f.fractionBits ≤ t) :
    rungOf f s m e ≤ (t - f.leastPlace - f.fractionBits + 1).toNat * 2 ^ f.fractionBits := by
  have hT := bd_log h0 h
  obtain ⟨l1, l2⟩ := log2_bounds h0
  unfold rungOf
  simp only [Nat.shiftLeft_eq]
  generalize hfb : f.fractionBits = fb at *
  generalize f.leastPlace = least at *
  have hB : f.binade = 2 ^ fb := by unfold Ieee.Format.binade; rw [hfb]
  rw [hB]
  generalize hlg : m.log2 = lg at *
  by_cases hA : least ≤ e + (lg : Int) - fb
  · rw [Int.max_eq_left hA]
    generalize hla : e + (lg : Int) - fb = last at *
    by_cases hTt : e + (lg : Int) = t
    · -- the power of two itself
      have hm : m = 2 ^ lg := by
        rcases h with h | ⟨h1, h2⟩
        · exact absurd h h0
        · have : (t - e).toNat = lg := by omega
          rw [this] at h2; omega
      have hn : m * 2 ^ (e - last).toNat = 2 ^ fb * 2 ^ (last - e).toNat := by
        rw [hm, ← Nat.pow_add, ← Nat.pow_add]; congr 1; omega
      rw [hn, cut_exact]
      have : (t - least - fb + 1).toNat = (last - least).toNat + 1 := by omega
      rw [this, Nat.add_mul, Nat.one_mul]
      exact Nat.le_refl _
    · have hk : Ieee.Toward.even.cut s (m * 2 ^ (e - last).toNat) (last - e).toNat ≤ 2 ^ (fb + 1) := by
        refine Nat.le_trans (cut_le _ _ _) ?_
        have hlt : m * 2 ^ (e - last).toNat / 2 ^ (last - e).toNat < 2 ^ (fb + 1) := by
          rw [Nat.div_lt_iff_lt_mul (Nat.two_pow_pos _)]
          calc m * 2 ^ (e - last).toNat < 2 ^ (lg + 1) * 2 ^ (e - last).toNat := Nat.mul_lt_mul_of_pos_right l2 (Nat.two_pow_pos _)
            _ = 2 ^ (fb + 1) * 2 ^ (last - e).toNat := by rw [← Nat.pow_add, ← Nat.pow_add]; congr 1; omega
        exact hlt
      have hp : 2 ^ (fb + 1) = 2 * 2 ^ fb := by rw [Nat.pow_succ, Nat.mul_comm]
      have hq : (last - least).toNat + 2 ≤ (t - least - fb + 1).toNat := by omega
      calc (last - least).toNat * 2 ^ fb + Ieee.Toward.even.cut s (m * 2 ^ (e - last).toNat) (last - e).toNat ≤ (last - least).toNat * 2 ^ fb + 2 * 2 ^ fb := by omega
        _ = ((last - least).toNat + 2) * 2 ^ fb := by rw [Nat.add_mul]
        _ ≤ _ := Nat.mul_le_mul_right _ hq
  · rw [Int.max_eq_right (by omega)]
    have hk : Ieee.Toward.even.cut s (m * 2 ^ (e - least).toNat) (least - e).toNat ≤ 2 ^ fb := by
      refine Nat.le_trans (cut_le _ _ _) ?_
      have hlt : m * 2 ^ (e - least).toNat / 2 ^ (least - e).toNat < 2 ^ fb := by
        rw [Nat.div_lt_iff_lt_mul (Nat.two_pow_pos _)]
        calc m * 2 ^ (e - least).toNat < 2 ^ (lg + 1) * 2 ^ (e - least).toNat := Nat.mul_lt_mul_of_pos_right l2 (Nat.two_pow_pos _)
          _ = 2 ^ (lg + 1 + (e - least).toNat) := by rw [← Nat.pow_add]
          _ ≤ 2 ^ (fb + (least - e).toNat) := Nat.pow_le_pow_right (by omega) (by omega)
          _ = 2 ^ fb * 2 ^ (least - e).toNat := by rw [Nat.pow_add]
      exact hlt
    have hz : (least - least).toNat = 0 := by omega
    rw [hz, Nat.zero_mul, Nat.zero_add]
    have h1 : 1 ≤ (t - least - fb + 1).toNat := by omega
    exact Nat.le_trans hk (Nat.le_mul_of_pos_left _ h1)

/-- what a rung at most that of 2 ^ t reads as -/
theorem read_rung (f : Ieee.Format) (s : Bool) {r : Nat} {t : Int} (ht : f.leastPlace + f.fractionBits ≤ t) (hr : r ≤ (t - f.leastPlace - f.fractionBits + 1).toNat * 2 ^ f.fractionBits) (hi : r < f.infRung) :
    ∃ m e, f.read (f.word s r) = .number s m e ∧ bd m e t := by
  rw [read_wordf f s r hi]
  have hB : f.binade = 2 ^ f.fractionBits := rfl
  rw [hB]
  generalize f.fractionBits = fb at *
  generalize f.leastPlace = least at *
  have hp := Nat.two_pow_pos fb
  by_cases h : r < 2 ^ fb
  · rw [if_pos h]
    refine ⟨_, _, rfl, .inr ⟨by omega, ?_⟩⟩
    exact Nat.le_trans (Nat.le_of_lt h) (Nat.pow_le_pow_right (by omega) (by omega))
  · rw [if_neg h]
    refine ⟨_, _, rfl, ?_⟩
    have hm : r % 2 ^ fb < 2 ^ fb := Nat.mod_lt _ hp
    have hq1 : 1 ≤ r / 2 ^ fb := (Nat.one_le_div_iff hp).2 (by omega)
    have hq2 : r / 2 ^ fb ≤ (t - least - fb + 1).toNat := Nat.div_le_of_le_mul (by rw [Nat.mul_comm]; exact hr)
    have hdm := Nat.div_add_mod r (2 ^ fb)
    generalize hq : r / 2 ^ fb = q at *
    generalize hmm : r % 2 ^ fb = u at *
    by_cases he : q = (t - least - fb + 1).toNat
    · have hu : u = 0 := by
        rw [← he] at hr
        have : 2 ^ fb * q = q * 2 ^ fb := Nat.mul_comm _ _
        omega
      subst hu
      refine .inr ⟨by omega, ?_⟩
      have : (t - (least + ((q - 1 : Nat) : Int))).toNat = fb := by omega
      rw [this, Nat.add_zero]
      exact Nat.le_refl _
    · refine .inr ⟨by omega, ?_⟩
      have h1 : fb + 1 ≤ (t - (least + ((q - 1 : Nat) : Int))).toNat := by omega
      refine Nat.le_trans ?_ (Nat.pow_le_pow_right (by omega) h1)
      rw [Nat.pow_succ]; omega

/-- ROUNDING KEEPS A BOUND by a power of two. -/
theorem nearest_bd (f : Ieee.Format) (s : Bool) {m : Nat} {e t : Int} (h : bd m e t) (ht : f.leastPlace + f.fractionBits ≤ t) (hi : (t - f.leastPlace - f.fractionBits + 1).toNat * 2 ^ f.fractionBits < f.infRung) :
    ∃ m' e', f.read (f.nearest s m e) = .number s m' e' ∧ bd m' e' t := by
  by_cases h0 : m = 0
  · subst h0
    have : f.nearest s 0 e = f.word s 0 := by unfold Ieee.Format.nearest; simp
    rw [this]
    exact read_rung f s ht (Nat.zero_le _) (by omega)
  · rw [nearest_rung f s e h0]
    have hr := rung_le f s h0 h ht
    rw [Nat.min_eq_left (by omega)]
    exact read_rung f s ht hr (by omega)

/-- A VALUE WITHIN A BOUND: a NaN, or a number at most 2 ^ t. -/
def Bd (k : FloatKind) (v : Option Nat) (t : Int) : Prop := ∀ b, v = some b → ∃ s m e, k.decode b = .number s m e ∧ bd m e t
theorem Bd.none {k : FloatKind} {t : Int} : Bd k none t := fun _ h => by cases h
theorem Bd.mono {k : FloatKind} {v : Option Nat} {t t' : Int} (h : Bd k v t) (ht : t ≤ t') : Bd k v t' := fun b hb => by
  obtain ⟨s, m, e, h1, h2⟩ := h b hb
  exact ⟨s, m, e, h1, bd_mono h2 ht⟩
theorem Bd.const {k : FloatKind} {b : Nat} {s : Bool} {m : Nat} {e t : Int} (h : k.decode b = .number s m e) (hb : bd m e t) : Bd k (some b) t := fun b' hb' => by
  cases hb'; exact ⟨s, m, e, h, hb⟩

theorem f64_room {t : Int} (h1 : -1022 ≤ t) (h2 : t ≤ 1023) : FloatKind.f64.format.leastPlace + FloatKind.f64.format.fractionBits ≤ t ∧ (t - FloatKind.f64.format.leastPlace - FloatKind.f64.format.fractionBits + 1).toNat * 2 ^ FloatKind.f64.format.fractionBits < FloatKind.f64.format.infRung := by
  have e1 : FloatKind.f64.format.leastPlace = -1074 := rfl
  have e2 : FloatKind.f64.format.fractionBits = 52 := rfl
  have e3 : FloatKind.f64.format.infRung = 2047 * 2 ^ 52 := rfl
  rw [e1, e2, e3]
  refine ⟨by omega, ?_⟩
  exact Nat.mul_lt_mul_of_pos_right (by omega) (Nat.two_pow_pos _)
theorem f32_room {t : Int} (h1 : -126 ≤ t) (h2 : t ≤ 127) : FloatKind.f32.format.leastPlace + FloatKind.f32.format.fractionBits ≤ t ∧ (t - FloatKind.f32.format.leastPlace - FloatKind.f32.format.fractionBits + 1).toNat * 2 ^ FloatKind.f32.format.fractionBits < FloatKind.f32.format.infRung := by
  have e1 : FloatKind.f32.format.leastPlace = -149 := rfl
  have e2 : FloatKind.f32.format.fractionBits = 23 := rfl
  have e3 : FloatKind.f32.format.infRung = 255 * 2 ^ 23 := rfl
  rw [e1, e2, e3]
  refine ⟨by omega, ?_⟩
  exact Nat.mul_lt_mul_of_pos_right (by omega) (Nat.two_pow_pos _)

theorem bd_mul {m n : Nat} {i j a b : Int} (h : bd m i a) (h' : bd n j b) : bd (m * n) (i + j) (a + b) := by
  rcases h with h | ⟨h1, h2⟩
  · exact .inl (by rw [h, Nat.zero_mul])
  · rcases h' with h' | ⟨h1', h2'⟩
    · exact .inl (by rw [h', Nat.mul_zero])
    · refine .inr ⟨by omega, ?_⟩
      have : (a + b - (i + j)).toNat = (a - i).toNat + (b - j).toNat := by omega
      rw [this, Nat.pow_add]
      exact Nat.mul_le_mul h2 h2'

theorem Bd.mul {x y : Option Nat} {a b : Int} (h : Bd .f64 x a) (h' : Bd .f64 y b) (h1 : -1022 ≤ a + b) (h2 : a + b ≤ 1023) : Bd .f64 (fop .mul .f64 x y) (a + b) := by
  intro r hr
  cases x with
  | none => cases hr
  | some x => cases y with
    | none => cases hr
    | some y =>
      obtain ⟨s, m, i, d1, b1⟩ := h x rfl
      obtain ⟨s', n, j, d2, b2⟩ := h' y rfl
      have e : fop .mul .f64 (some x) (some y) = ((FloatKind.f64.decode x).product (FloatKind.f64.decode y)).map FloatKind.f64.format.write := rfl
      rw [e, d1, d2] at hr
      have hr : FloatKind.f64.format.nearest (s ^^ s') (m * n) (i + j) = r := Option.some.inj hr
      obtain ⟨r1, r2⟩ := f64_room h1 h2
      obtain ⟨m', e', g1, g2⟩ := nearest_bd FloatKind.f64.format (s ^^ s') (bd_mul b1 b2) r1 r2
      exact ⟨_, m', e', by rw [← hr]; exact g1, g2⟩

theorem signed_abs (s : Bool) (m u : Nat) : (Ieee.signed s m u).natAbs = m * 2 ^ u := by
  rw [← Nat.shiftLeft_eq]
  cases s
  · show ((m <<< u : Nat) : Int).natAbs = _
    exact Int.natAbs_natCast _
  · show (-((m <<< u : Nat) : Int)).natAbs = _
    rw [Int.natAbs_neg, Int.natAbs_natCast]

theorem bd_sum {s s' : Bool} {m n : Nat} {i j c : Int} (h : bd m i c) (h' : bd n j c) :
    bd (Ieee.signed s m (i - min i j).toNat + Ieee.signed s' n (j - min i j).toNat).natAbs (min i j) (c + 1) := by
  have hle := Int.natAbs_add_le (Ieee.signed s m (i - min i j).toNat) (Ieee.signed s' n (j - min i j).toNat)
  rw [signed_abs, signed_abs] at hle
  generalize (Ieee.signed s m (i - min i j).toNat + Ieee.signed s' n (j - min i j).toNat).natAbs = T at *
  generalize hb : min i j = base at *
  have hbi : base ≤ i := by omega
  have hbj : base ≤ j := by omega
  have key : ∀ (m : Nat) (i : Int), base ≤ i → bd m i c → m = 0 ∨ (base ≤ c ∧ m * 2 ^ (i - base).toNat ≤ 2 ^ (c - base).toNat) := by
    intro m i hi h
    rcases h with h | ⟨h1, h2⟩
    · exact .inl h
    · refine .inr ⟨by omega, ?_⟩
      calc m * 2 ^ (i - base).toNat ≤ 2 ^ (c - i).toNat * 2 ^ (i - base).toNat := Nat.mul_le_mul_right _ h2
        _ = 2 ^ (c - base).toNat := by rw [← Nat.pow_add]; congr 1; omega
  by_cases hT : T = 0
  · exact .inl hT
  · have hc : base ≤ c := by
      rcases key m i hbi h with h | h
      · rcases key n j hbj h' with h' | h'
        · subst h; subst h'; simp at hle; omega
        · exact h'.1
      · exact h.1
    refine .inr ⟨by omega, ?_⟩
    have e : (c + 1 - base).toNat = (c - base).toNat + 1 := by omega
    rw [e, Nat.pow_succ]
    have g1 : m * 2 ^ (i - base).toNat ≤ 2 ^ (c - base).toNat := by
      rcases key m i hbi h with h | h
      · rw [h, Nat.zero_mul]; exact Nat.zero_le _
      · exact h.2
    have g2 : n * 2 ^ (j - base).toNat ≤ 2 ^ (c - base).toNat := by
      rcases key n j hbj h' with h | h
      · rw [h, Nat.zero_mul]; exact Nat.zero_le _
      · exact h.2
    omega

theorem Bd.add_of {op : BinOp} (hop : op = .add ∨ op = .sub) {x y : Option Nat} {c : Int} (h : Bd .f64 x c) (h' : Bd .f64 y c) (h1 : -1023 ≤ c) (h2 : c ≤ 1022) : Bd .f64 (fop op .f64 x y) (c + 1) := by
  intro r hr
  cases x with
  | none => cases hr
  | some x => cases y with
    | none => cases hr
    | some y =>
      obtain ⟨s, m, i, d1, b1⟩ := h x rfl
      obtain ⟨s', n, j, d2, b2⟩ := h' y rfl
      obtain ⟨r1, r2⟩ := f64_room (t := c + 1) (by omega) (by omega)
      have e : ∃ s'' : Bool, fop op .f64 (some x) (some y) = ((FloatKind.f64.decode x).sum (.number s'' n j)).map FloatKind.f64.format.write := by
        rcases hop with rfl | rfl
        · exact ⟨s', by rw [← d2]; rfl⟩
        · refine ⟨!s', ?_⟩
          have : fop .sub .f64 (some x) (some y) = ((FloatKind.f64.decode x).sum (FloatKind.f64.decode y).opposite).map FloatKind.f64.format.write := rfl
          rw [this, d2]; rfl
      obtain ⟨s'', e⟩ := e
      rw [e, d1] at hr
      have hr := Option.some.inj hr
      obtain ⟨m', e', g1, g2⟩ := nearest_bd FloatKind.f64.format (if Ieee.signed s m (i - min i j).toNat + Ieee.signed s'' n (j - min i j).toNat = 0 then s && s'' else decide (Ieee.signed s m (i - min i j).toNat + Ieee.signed s'' n (j - min i j).toNat < 0)) (bd_sum (s := s) (s' := s'') b1 b2) r1 r2
      exact ⟨_, m', e', by rw [← hr]; exact g1, g2⟩
theorem Bd.add {x y : Option Nat} {c : Int} (h : Bd .f64 x c) (h' : Bd .f64 y c) (h1 : -1023 ≤ c) (h2 : c ≤ 1022) : Bd .f64 (fop .add .f64 x y) (c + 1) := Bd.add_of (.inl rfl) h h' h1 h2
theorem Bd.sub {x y : Option Nat} {c : Int} (h : Bd .f64 x c) (h' : Bd .f64 y c) (h1 : -1023 ≤ c) (h2 : c ≤ 1022) : Bd .f64 (fop .sub .f64 x y) (c + 1) := Bd.add_of (.inr rfl) h h' h1 h2

/-- A VALUE WITHIN 2 ^ 127 is narrowed as the language fixes it. -/
theorem Bd.slim {v : Option Nat} {t : Int} (h : Bd .f64 v t) (ht : t ≤ 127) : slimOk v := by
  cases v with
  | none => exact .inl rfl
  | some b =>
    right
    obtain ⟨s, m, e, hd, hb⟩ := h b rfl
    have hb' : bd m e 127 := bd_mono hb ht
    obtain ⟨r1, r2⟩ := f32_room (t := 127) (by omega) (by omega)
    obtain ⟨m', e', g1, g2⟩ := nearest_bd FloatKind.f32.format s hb' r1 r2
    show (floatToFloatBits .f64 b .f32).isSome = true
    unfold floatToFloatBits
    rw [if_neg (by decide), hd]
    simp only
    rw [if_neg]
    · rfl
    · have : FloatKind.f32.decode (FloatKind.f32.encode (.number s m e)) = .number s m' e' := g1
      rw [this]; simp [Ieee.Datum.isInfinity]

/-- division by a number that is at least 2 ^ q -/
theorem bd_quo {m n : Nat} {i j a : Int} (hn : n ≠ 0) (h : bd m i a) :
    bd (2 * ((m <<< (54 + n.log2 - m.log2)) / n) + ((m <<< (54 + n.log2 - m.log2)) % n != 0).toNat) (i - j - (54 + n.log2 - m.log2 : Nat) - 1) (a - (j + n.log2)) := by
  by_cases h0 : m = 0
  · subst h0
    left
    rw [Nat.shiftLeft_eq, Nat.zero_mul, Nat.zero_div, Nat.zero_mod]
    rfl
  · have hT := bd_log h0 h
    rcases h with h | ⟨h1, h2⟩
    · exact absurd h h0
    obtain ⟨l1, l2⟩ := log2_bounds hn
    generalize hmore : 54 + n.log2 - m.log2 = more
    generalize hln : n.log2 = ln at *
    generalize hlm : m.log2 = lm at *
    have hE : 0 ≤ (a - i) + more - ln := by omega
    have hD : m <<< more ≤ n * 2 ^ ((a - i) + more - ln).toNat := by
      rw [Nat.shiftLeft_eq]
      calc m * 2 ^ more ≤ 2 ^ (a - i).toNat * 2 ^ more := Nat.mul_le_mul_right _ h2
        _ = 2 ^ ln * 2 ^ ((a - i) + more - ln).toNat := by rw [← Nat.pow_add, ← Nat.pow_add]; congr 1; omega
        _ ≤ _ := Nat.mul_le_mul_right _ l1
    generalize m <<< more = D at *
    generalize hX : ((a - i) + more - ln).toNat = X at *
    right
    refine ⟨by omega, ?_⟩
    have e : (a - (j + (ln : Int)) - (i - j - (more : Int) - 1)).toNat = X + 1 := by omega
    rw [e, Nat.pow_succ]
    have hpos : 0 < n := Nat.pos_of_ne_zero hn
    by_cases hr : D % n = 0
    · rw [hr]
      have : D / n ≤ 2 ^ X := Nat.div_le_of_le_mul hD
      simp; omega
    · have hlt : D < n * 2 ^ X := by
        refine Nat.lt_of_le_of_ne hD (fun he => hr ?_)
        rw [he, Nat.mul_mod_right]
      have : D / n < 2 ^ X := Nat.div_lt_of_lt_mul hlt
      have hb : (D % n != 0).toNat ≤ 1 := by cases (D % n != 0) <;> simp
      omega

theorem Bd.quo {x : Option Nat} {c : Nat} {s' : Bool} {n : Nat} {j a : Int} (h : Bd .f64 x a) (hc : FloatKind.f64.decode c = .number s' n j) (hn : n ≠ 0) (h1 : -1022 ≤ a - (j + n.log2)) (h2 : a - (j + n.log2) ≤ 1023) : Bd .f64 (fop .quo .f64 x (some c)) (a - (j + n.log2)) := by
  intro r hr
  cases x with
  | none => cases hr
  | some x =>
    obtain ⟨s, m, i, d1, b1⟩ := h x rfl
    have e : fop .quo .f64 (some x) (some c) = ((FloatKind.f64.decode x).quotient 54 (FloatKind.f64.decode c)).map FloatKind.f64.format.write := rfl
    rw [e, d1, hc] at hr
    simp only [Ieee.Datum.quotient, if_neg hn] at hr
    have hr := Option.some.inj hr
    obtain ⟨r1, r2⟩ := f64_room h1 h2
    obtain ⟨m', e', g1, g2⟩ := nearest_bd FloatKind.f64.format (s ^^ s') (bd_quo (j := j) hn b1) r1 r2
    exact ⟨_, m', e', by rw [← hr]; exact g1, g2⟩

/-- the square root: half the bound -/
theorem rootFrom_le (n : Nat) : ∀ (todo root : Nat), Ieee.Datum.rootFrom n todo root ≤ root + (2 ^ todo - 1) := by
  intro todo
  induction todo with
  | zero => intro root; exact Nat.le_refl _
  | succ k ih =>
    intro root
    unfold Ieee.Datum.rootFrom
    simp only [Nat.shiftLeft_eq, Nat.one_mul]
    have hp := Nat.two_pow_pos k
    have e : 2 ^ (k + 1) = 2 ^ k + 2 ^ k := by rw [Nat.pow_succ]; omega
    by_cases hc : (root + 2 ^ k) * (root + 2 ^ k) ≤ n
    · rw [if_pos hc]; refine Nat.le_trans (ih _) ?_; omega
    · rw [if_neg hc]; refine Nat.le_trans (ih _) ?_; omega

theorem Bd.sqrt {x : Option Nat} {a : Int} (h : Bd .f64 x a) (h1 : -1000 ≤ a) (h2 : a ≤ 1000) : Bd .f64 (fsq x) (a / 2 + 2) := by
  intro r hr
  cases x with
  | none => cases hr
  | some x =>
    obtain ⟨s, m, i, d1, b1⟩ := h x rfl
    have e : fsq (some x) = ((FloatKind.f64.decode x).root 54).map FloatKind.f64.format.write := rfl
    rw [e, d1] at hr
    obtain ⟨r1, r2⟩ := f64_room (t := a / 2 + 2) (by omega) (by omega)
    by_cases h0 : m = 0
    · subst h0
      simp only [Ieee.Datum.root, if_true] at hr
      have hr := Option.some.inj hr
      obtain ⟨m', e', g1, g2⟩ := nearest_bd FloatKind.f64.format s (m := 0) (e := i) (t := a / 2 + 2) (.inl rfl) r1 r2
      exact ⟨_, m', e', by rw [← hr]; exact g1, g2⟩
    · simp only [Ieee.Datum.root, if_neg h0] at hr
      cases s with
      | true => simp at hr
      | false =>
        simp only [Bool.false_eq_true, if_false] at hr
        have hr := Option.some.inj hr
        have hT := bd_log h0 b1
        generalize hmore : 108 - m.log2 = more0 at hr
        have hmr : more0 + ((i - (more0 : Int)) % 2).toNat = more0 + ((i - (more0 : Int)) % 2).toNat := rfl
        generalize hmo : more0 + ((i - (more0 : Int)) % 2).toNat = more at hr hmr
        have hn0 : m <<< more ≠ 0 := by rw [Nat.shiftLeft_eq]; exact Nat.mul_ne_zero h0 (Nat.ne_of_gt (Nat.two_pow_pos _))
        have hlog : (m <<< more).log2 ≤ m.log2 + more := by
          have hlt : m <<< more < 2 ^ (m.log2 + more + 1) := by
            rw [Nat.shiftLeft_eq]
            calc m * 2 ^ more < 2 ^ (m.log2 + 1) * 2 ^ more := Nat.mul_lt_mul_of_pos_right Nat.lt_log2_self (Nat.two_pow_pos _)
              _ = 2 ^ (m.log2 + more + 1) := by rw [← Nat.pow_add]; congr 1; omega
          have := (Nat.log2_lt hn0).2 hlt
          omega
        have hw := rootFrom_le (m <<< more) ((m <<< more).log2 / 2 + 1) 0
        generalize Ieee.Datum.rootFrom (m <<< more) ((m <<< more).log2 / 2 + 1) 0 = whole at hw hr
        have hp := Nat.two_pow_pos ((m <<< more).log2 / 2 + 1)
        have hbd : bd (2 * whole + (whole * whole != m <<< more).toNat) ((i - (more : Int)) / 2 - 1) (a / 2 + 2) := by
          right
          have hb1 : (whole * whole != m <<< more).toNat ≤ 1 := by cases (whole * whole != m <<< more) <;> simp
          have hle : 2 * whole + (whole * whole != m <<< more).toNat ≤ 2 ^ ((m <<< more).log2 / 2 + 2) := by
            rw [Nat.pow_succ]; omega
          refine ⟨by omega, Nat.le_trans hle (Nat.pow_le_pow_right (by omega) ?_)⟩
          omega
        obtain ⟨m', e', g1, g2⟩ := nearest_bd FloatKind.f64.format false hbd r1 r2
        exact ⟨_, m', e', by rw [← hr]; exact g1, g2⟩

/-- a widened float is at most 2 ^ 128; no infinity among them if it is finite -/
theorem wide_bd {v : Nat} (h : isFin .f32 v = true) : Bd .f64 (wide (some v)) 128 := by
  unfold isFin at h
  cases hd : FloatKind.f32.decode v with
  | nan s t => rw [hd] at h; cases h
  | infinity s => rw [hd] at h; cases h
  | number s m e =>
    obtain ⟨h1, h2, h3, _⟩ := decode32_number hd
    have hw : wide (some v) = some (FloatKind.f64.encode (.number s m e)) := widen_number hd
    rw [hw]
    by_cases h0 : m = 0
    · subst h0
      exact Bd.const decode_encode64_zero (.inl rfl)
    · refine Bd.const (decode_encode64 h0 h1 h2 h3) (.inr ?_)
      have hl := log2_lt24 h0 h1
      obtain ⟨_, b2⟩ := shl_bounds h0 (n := 52) (by omega)
      refine ⟨by omega, ?_⟩
      refine Nat.le_trans (Nat.le_of_lt b2) (Nat.pow_le_pow_right (by omega) ?_)
      omega

/-- of a 32-bit float: a NaN, an infinity, or finite -/
theorem f32_kinds (x : Nat) : (fv .f32 x = none) ∨ (fv .f32 x = some x ∧ ∃ s, FloatKind.f32.decode x = .infinity s) ∨ (fv .f32 x = some x ∧ isFin .f32 x = true) := by
  cases h : FloatKind.f32.decode x with
  | nan s t => exact .inl (fv_none (by rw [h]; rfl))
  | infinity s => exact .inr (.inl ⟨fv_some (by rw [h]; rfl), s, rfl⟩)
  | number s m e => exact .inr (.inr ⟨fv_some (by rw [h]; rfl), by unfold isFin; rw [h]⟩)

theorem root_ok (x : Nat) : slimOk (fsq (wide (fv .f32 x))) := by
  rcases f32_kinds x with h | ⟨h, s, hs⟩ | ⟨h, hf⟩
  · rw [h]; exact .inl rfl
  · rw [h]
    have : wide (some x) = some (FloatKind.f64.encode (.infinity s)) := widen_infinity hs
    rw [this]
    cases s
    · right; rfl
    · left; rfl
  · rw [h]
    exact (Bd.sqrt (wide_bd hf) (by omega) (by omega)).slim (by omega)

end Go.Proofs.Ytfbapbgiegploaa.Flo
