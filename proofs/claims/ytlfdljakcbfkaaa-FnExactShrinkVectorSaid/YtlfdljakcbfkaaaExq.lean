/- The exponential function of numbers from -200 to -0 lies from 0 to 1, so nothing overflows; products with it; the loss of a sum that decays. No program. -/
import Derived.Test.YtlfdljakcbfkaaaFlb
import Derived.Test.YtlfdljakcbfkaaaFky
namespace Go.Proofs.Ytlfdljakcbfkaaa.Flo
open Go
set_option linter.unusedVariables false
abbrev cOne : Option Nat := fv .f64 4607182418800017408
abbrev c256 : Option Nat := fv .f64 4643211215818981376
def expP (t : Option Nat) : Nat → Option Nat
  | 0 => cOne
  | j + 1 => fop .add .f64 cOne (fop .quo .f64 (fop .mul .f64 t (expP t j)) (fv .f64 (floatOfInt .f64 (12 - (j : Int)))))
def sqN (p : Option Nat) : Nat → Option Nat
  | 0 => p
  | j + 1 => fop .mul .f64 (sqN p j) (sqN p j)
def expV (x : Option Nat) : Option Nat := sqN (expP (fop .quo .f64 x c256) 12) 8
def Po (v : Option Nat) : Prop := ∃ b m e, v = some b ∧ FloatKind.f64.decode b = .number false m e ∧ bd m e 0
def Ng (v : Option Nat) : Prop := ∃ b m e, v = some b ∧ FloatKind.f64.decode b = .number true m e ∧ bd m e 0
theorem near0 (s : Bool) {m : Nat} {e : Int} (h : bd m e 0) : ∃ m' e', FloatKind.f64.decode (FloatKind.f64.format.nearest s m e) = .number s m' e' ∧ bd m' e' 0 := by
  obtain ⟨r1, r2⟩ := f64_room (t := 0) (by omega) (by omega)
  exact nearest_bd FloatKind.f64.format s h r1 r2
theorem bd_mul0 {m n : Nat} {i j : Int} (h : bd m i 0) (h' : bd n j 0) : bd (m * n) (i + j) 0 := bd_mono (bd_mul h h') (by omega)
theorem Po.mul {x y : Option Nat} (h : Po x) (h' : Po y) : Po (fop .mul .f64 x y) := by
  obtain ⟨a, m, i, rfl, d1, b1⟩ := h
  obtain ⟨b, n, j, rfl, d2, b2⟩ := h'
  have e : fop .mul .f64 (some a) (some b) = ((FloatKind.f64.decode a).product (FloatKind.f64.decode b)).map FloatKind.f64.format.write := rfl
  rw [e, d1, d2]
  obtain ⟨m', e', g1, g2⟩ := near0 false (bd_mul0 b1 b2)
  exact ⟨_, m', e', rfl, g1, g2⟩
theorem Ng.mul {x y : Option Nat} (h : Ng x) (h' : Po y) : Ng (fop .mul .f64 x y) := by
  obtain ⟨a, m, i, rfl, d1, b1⟩ := h
  obtain ⟨b, n, j, rfl, d2, b2⟩ := h'
  have e : fop .mul .f64 (some a) (some b) = ((FloatKind.f64.decode a).product (FloatKind.f64.decode b)).map FloatKind.f64.format.write := rfl
  rw [e, d1, d2]
  obtain ⟨m', e', g1, g2⟩ := near0 true (bd_mul0 b1 b2)
  exact ⟨_, m', e', rfl, g1, g2⟩
theorem quo_neg {x c m n : Nat} {i j a : Int} (d1 : FloatKind.f64.decode x = .number true m i) (b1 : bd m i a) (hc : FloatKind.f64.decode c = .number false n j) (hn : n ≠ 0) (hq : a ≤ j + n.log2) : Ng (fop .quo .f64 (some x) (some c)) := by
  have e : fop .quo .f64 (some x) (some c) = ((FloatKind.f64.decode x).quotient 54 (FloatKind.f64.decode c)).map FloatKind.f64.format.write := rfl
  rw [e, d1, hc]
  simp only [Ieee.Datum.quotient, if_neg hn]
  obtain ⟨m', e', g1, g2⟩ := near0 true (bd_mono (bd_quo (j := j) hn b1) (by omega))
  exact ⟨_, m', e', rfl, g1, g2⟩
theorem Ng.quo {x : Option Nat} (h : Ng x) {c n : Nat} {j : Int} (hc : FloatKind.f64.decode c = .number false n j) (hn : n ≠ 0) (hq : 0 ≤ j + n.log2) : Ng (fop .quo .f64 x (some c)) := by
  obtain ⟨a, m, i, rfl, d1, b1⟩ := h
  exact quo_neg d1 b1 hc hn hq
theorem one_some : cOne = some 4607182418800017408 := by kernel_rfl
theorem one_num : FloatKind.f64.decode 4607182418800017408 = .number false 4503599627370496 (-52) := by kernel_rfl
theorem po_one : Po cOne := ⟨4607182418800017408, 4503599627370496, -52, one_some, one_num, .inr ⟨by omega, by decide +kernel⟩⟩
theorem one_less {n : Nat} {j : Int} (h : bd n j 0) :
    0 ≤ Ieee.signed false 4503599627370496 (-52 - min (-52) j).toNat + Ieee.signed true n (j - min (-52) j).toNat ∧
    bd (Ieee.signed false 4503599627370496 (-52 - min (-52) j).toNat + Ieee.signed true n (j - min (-52) j).toNat).natAbs (min (-52) j) 0 := by
  have e1 : Ieee.signed false 4503599627370496 (-52 - min (-52) j).toNat = ((2 ^ (0 - min (-52) j).toNat : Nat) : Int) := by
    show ((4503599627370496 <<< (-52 - min (-52) j).toNat : Nat) : Int) = _
    rw [Nat.shiftLeft_eq]
    have : (4503599627370496 : Nat) = 2 ^ 52 := by decide
    rw [this, ← Nat.pow_add]
    congr 2; omega
  have e2 : Ieee.signed true n (j - min (-52) j).toNat = -((n * 2 ^ (j - min (-52) j).toNat : Nat) : Int) := by
    show -((n <<< (j - min (-52) j).toNat : Nat) : Int) = _
    rw [Nat.shiftLeft_eq]
  have hle : n * 2 ^ (j - min (-52) j).toNat ≤ 2 ^ (0 - min (-52) j).toNat := by
    rcases h with h | ⟨h1, h2⟩
    · rw [h, Nat.zero_mul]; exact Nat.zero_le _
    · calc n * 2 ^ (j - min (-52) j).toNat ≤ 2 ^ (0 - j).toNat * 2 ^ (j - min (-52) j).toNat := Nat.mul_le_mul_right _ h2
        _ = 2 ^ (0 - min (-52) j).toNat := by rw [← Nat.pow_add]; congr 1; omega
  rw [e1, e2]
  generalize hA : 2 ^ (0 - min (-52) j).toNat = A at *
  generalize n * 2 ^ (j - min (-52) j).toNat = B at *
  refine ⟨by omega, .inr ⟨by omega, ?_⟩⟩
  rw [hA]; omega
theorem Ng.one {x : Option Nat} (h : Ng x) : Po (fop .add .f64 cOne x) := by
  obtain ⟨a, n, j, rfl, d2, b2⟩ := h
  rw [one_some]
  have e : fop .add .f64 (some 4607182418800017408) (some a) = ((FloatKind.f64.decode 4607182418800017408).sum (FloatKind.f64.decode a)).map FloatKind.f64.format.write := rfl
  rw [e, one_num, d2]
  obtain ⟨g0, gb⟩ := one_less b2
  obtain ⟨m', e', g1, g2⟩ := near0 (if Ieee.signed false 4503599627370496 (-52 - min (-52) j).toNat + Ieee.signed true n (j - min (-52) j).toNat = 0 then false && true else decide (Ieee.signed false 4503599627370496 (-52 - min (-52) j).toNat + Ieee.signed true n (j - min (-52) j).toNat < 0)) gb
  have hs : (if Ieee.signed false 4503599627370496 (-52 - min (-52) j).toNat + Ieee.signed true n (j - min (-52) j).toNat = 0 then false && true else decide (Ieee.signed false 4503599627370496 (-52 - min (-52) j).toNat + Ieee.signed true n (j - min (-52) j).toNat < 0)) = false := by
    split
    · rfl
    · exact decide_eq_false (by omega)
  exact ⟨_, m', e', rfl, g1.trans (by rw [hs]), g2⟩
theorem expP_step {t : Option Nat} (ht : Ng t) {j c n : Nat} {e : Int} (hp : Po (expP t j)) (hc : fv .f64 (floatOfInt .f64 (12 - (j : Int))) = some c) (hd : FloatKind.f64.decode c = .number false n e) (hn : n ≠ 0) (hq : 0 ≤ e + n.log2) : Po (expP t (j + 1)) := by
  show Po (fop .add .f64 cOne (fop .quo .f64 (fop .mul .f64 t (expP t j)) (fv .f64 (floatOfInt .f64 (12 - (j : Int))))))
  rw [hc]
  exact ((ht.mul hp).quo hd hn hq).one
theorem expP_po {t : Option Nat} (ht : Ng t) : Po (expP t 12) := by
  have s0 : Po (expP t 0) := po_one
  have s1 := expP_step ht s0 (c := 4622945017495814144) (n := 6755399441055744) (e := -49) (by kernel_rfl) (by kernel_rfl) (by omega) (by decide +kernel)
  have s2 := expP_step ht s1 (c := 4622382067542392832) (n := 6192449487634432) (e := -49) (by kernel_rfl) (by kernel_rfl) (by omega) (by decide +kernel)
  have s3 := expP_step ht s2 (c := 4621819117588971520) (n := 5629499534213120) (e := -49) (by kernel_rfl) (by kernel_rfl) (by omega) (by decide +kernel)
  have s4 := expP_step ht s3 (c := 4621256167635550208) (n := 5066549580791808) (e := -49) (by kernel_rfl) (by kernel_rfl) (by omega) (by decide +kernel)
  have s5 := expP_step ht s4 (c := 4620693217682128896) (n := 4503599627370496) (e := -49) (by kernel_rfl) (by kernel_rfl) (by omega) (by decide +kernel)
  have s6 := expP_step ht s5 (c := 4619567317775286272) (n := 7881299347898368) (e := -50) (by kernel_rfl) (by kernel_rfl) (by omega) (by decide +kernel)
  have s7 := expP_step ht s6 (c := 4618441417868443648) (n := 6755399441055744) (e := -50) (by kernel_rfl) (by kernel_rfl) (by omega) (by decide +kernel)
  have s8 := expP_step ht s7 (c := 4617315517961601024) (n := 5629499534213120) (e := -50) (by kernel_rfl) (by kernel_rfl) (by omega) (by decide +kernel)
  have s9 := expP_step ht s8 (c := 4616189618054758400) (n := 4503599627370496) (e := -50) (by kernel_rfl) (by kernel_rfl) (by omega) (by decide +kernel)
  have s10 := expP_step ht s9 (c := 4613937818241073152) (n := 6755399441055744) (e := -51) (by kernel_rfl) (by kernel_rfl) (by omega) (by decide +kernel)
  have s11 := expP_step ht s10 (c := 4611686018427387904) (n := 4503599627370496) (e := -51) (by kernel_rfl) (by kernel_rfl) (by omega) (by decide +kernel)
  exact expP_step ht s11 (c := 4607182418800017408) (n := 4503599627370496) (e := -52) (by kernel_rfl) (by kernel_rfl) (by omega) (by decide +kernel)
theorem sqN_po {p : Option Nat} (hp : Po p) : ∀ j, Po (sqN p j)
  | 0 => hp
  | j + 1 => (sqN_po hp j).mul (sqN_po hp j)
theorem wide_neg {b m : Nat} {e : Int} (hd : FloatKind.f32.decode b = .number true m e) (hb : bd m e 8) : ∃ x M E, wide (fv .f32 b) = some x ∧ FloatKind.f64.decode x = .number true M E ∧ bd M E 8 := by
  obtain ⟨h1, h2, h3, _⟩ := decode32_number hd
  have hv : fv .f32 b = some b := fv_some (by rw [hd]; rfl)
  rw [hv]
  refine ⟨FloatKind.f64.encode (.number true m e), ?_⟩
  have hw : wide (some b) = some (FloatKind.f64.encode (.number true m e)) := widen_number hd
  by_cases h0 : m = 0
  · subst h0
    exact ⟨0, -1074, hw, decode_encode64_zero, .inl rfl⟩
  · refine ⟨_, _, hw, decode_encode64 h0 h1 h2 h3, ?_⟩
    rcases hb with hb | ⟨c1, c2⟩
    · exact absurd hb h0
    · refine .inr ⟨by omega, ?_⟩
      calc m * 2 ^ (52 - m.log2) ≤ 2 ^ (8 - e).toNat * 2 ^ (52 - m.log2) := Nat.mul_le_mul_right _ c2
        _ = _ := by rw [← Nat.pow_add]; congr 1; omega
theorem c256_some : c256 = some 4643211215818981376 := by kernel_rfl
theorem c256_num : FloatKind.f64.decode 4643211215818981376 = .number false 4503599627370496 (-44) := by kernel_rfl
theorem log2_52 : Nat.log2 4503599627370496 = 52 := by
  rw [show (4503599627370496 : Nat) = 2 ^ 52 by decide]; exact Nat.log2_two_pow
theorem expV_po {b m : Nat} {e : Int} (hd : FloatKind.f32.decode b = .number true m e) (hb : bd m e 8) : Po (expV (wide (fv .f32 b))) := by
  obtain ⟨x, M, E, hx, dx, bx⟩ := wide_neg hd hb
  unfold expV
  rw [hx, c256_some]
  exact sqN_po (expP_po (quo_neg dx bx c256_num (by omega) (by rw [log2_52]; omega))) 8
theorem po_slim {v : Option Nat} (h : Po v) : slimOk v ∧ ∃ r n j, slim v = some r ∧ FloatKind.f32.decode r = .number false n j ∧ bd n j 0 := by
  obtain ⟨b, m, e, rfl, hd, hb⟩ := h
  obtain ⟨r1, r2⟩ := f32_room (t := 0) (by omega) (by omega)
  obtain ⟨m', e', g1, g2⟩ := nearest_bd FloatKind.f32.format false hb r1 r2
  have hs : slim (some b) = some (FloatKind.f32.encode (.number false m e)) := by
    show floatToFloatBits .f64 b .f32 = _
    unfold floatToFloatBits
    rw [if_neg (by decide), hd]
    simp only
    rw [if_neg]
    have : FloatKind.f32.decode (FloatKind.f32.encode (.number false m e)) = .number false m' e' := g1
    rw [this]; simp [Ieee.Datum.isInfinity]
  exact ⟨.inr (by rw [hs]; rfl), _, m', e', hs, g1, g2⟩
/-- a product with a number from 0 to 1 doesn't overflow -/
theorem mul_le1 {x y m n : Nat} {s : Bool} {i j : Int} (hx : FloatKind.f32.decode x = .number s m i) (hy : FloatKind.f32.decode y = .number false n j) (hb : bd n j 0) :
    ∃ r, floatBits .mul .f32 x y = some r ∧ isFin .f32 r = true := by
  obtain ⟨h1, h2, h3, _⟩ := decode32_number hx
  have e : floatBits .mul .f32 x y = ((FloatKind.f32.decode x).product (FloatKind.f32.decode y)).map FloatKind.f32.format.write := rfl
  rw [e, hx, hy]
  refine ⟨FloatKind.f32.format.nearest (s ^^ false) (m * n) (i + j), rfl, ?_⟩
  suffices h : ∃ s' m' e', FloatKind.f32.decode (FloatKind.f32.format.nearest (s ^^ false) (m * n) (i + j)) = .number s' m' e' by
    obtain ⟨s', m', e', h⟩ := h
    unfold isFin; rw [h]
  generalize (s ^^ false) = sg
  by_cases h0 : m * n = 0
  · rw [h0]
    obtain ⟨r1, r2⟩ := f32_room (t := 0) (by omega) (by omega)
    obtain ⟨m', e', g1, g2⟩ := nearest_bd FloatKind.f32.format sg (m := 0) (e := i + j) (t := 0) (.inl rfl) r1 r2
    exact ⟨sg, m', e', g1⟩
  have hn0 : n ≠ 0 := fun h => h0 (by rw [h, Nat.mul_zero])
  rcases hb with hb | ⟨c1, c2⟩
  · exact absurd hb hn0
  have hM : m * n ≤ 16777215 * 2 ^ (104 - (i + j)).toNat := by
    calc m * n ≤ 16777215 * 2 ^ (0 - j).toNat := Nat.mul_le_mul (by have : (2 : Nat) ^ 24 = 16777216 := by decide
                                                                    omega) c2
      _ ≤ _ := Nat.mul_le_mul_left _ (Nat.pow_le_pow_right (by decide) (by omega))
  have hE : i + j ≤ 104 := by omega
  generalize m * n = M at *
  generalize i + j = E at *
  obtain ⟨l1, l2⟩ := log2_bounds h0
  by_cases hT : E + (M.log2 : Int) ≤ 126
  · have hbd : bd M E 127 := by
      refine .inr ⟨by omega, ?_⟩
      refine Nat.le_trans (Nat.le_of_lt l2) (Nat.pow_le_pow_right (by decide) (by omega))
    obtain ⟨r1, r2⟩ := f32_room (t := 127) (by omega) (by omega)
    obtain ⟨m', e', g1, g2⟩ := nearest_bd FloatKind.f32.format sg hbd r1 r2
    exact ⟨sg, m', e', g1⟩
  · have hlg : M.log2 < 24 + (104 - E).toNat := by
      refine (Nat.log2_lt h0).2 (Nat.lt_of_le_of_lt hM ?_)
      rw [Nat.pow_add]
      exact Nat.mul_lt_mul_of_pos_right (by decide) (Nat.two_pow_pos _)
    have hT2 : E + (M.log2 : Int) = 127 := by omega
    have hcut : Ieee.Toward.even.cut sg M (104 - E).toNat ≤ 16777215 := by
      by_cases he : M = 16777215 * 2 ^ (104 - E).toNat
      · rw [he, cut_exact]; exact Nat.le_refl _
      · refine Nat.le_trans (cut_le _ _ _) ?_
        have : M / 2 ^ (104 - E).toNat < 16777215 := by
          rw [Nat.div_lt_iff_lt_mul (Nat.two_pow_pos _)]; omega
        omega
    have hr : rungOf FloatKind.f32.format sg M E ≤ 253 * 8388608 + 16777215 := by
      unfold rungOf
      have f1 : FloatKind.f32.format.leastPlace = -149 := rfl
      have f2 : FloatKind.f32.format.fractionBits = 23 := rfl
      have f3 : FloatKind.f32.format.binade = 8388608 := rfl
      simp only [f1, f2, f3]
      have hl : max (E + (M.log2 : Int) - ((23 : Nat) : Int)) (-149) = 104 := by omega
      rw [hl]
      have z1 : (E - 104).toNat = 0 := by omega
      rw [z1, Nat.shiftLeft_zero]
      have z2 : ((104 : Int) - -149).toNat = 253 := by decide
      rw [z2]
      omega
    have hi : FloatKind.f32.format.infRung = 2139095040 := rfl
    rw [nearest_rung _ _ _ h0, Nat.min_eq_left (by rw [hi]; omega)]
    show ∃ s' m' e', FloatKind.f32.format.read (FloatKind.f32.format.word sg (rungOf FloatKind.f32.format sg M E)) = .number s' m' e'
    rw [read_wordf _ _ _ (by rw [hi]; omega)]
    split
    · exact ⟨_, _, _, rfl⟩
    · exact ⟨_, _, _, rfl⟩
end Go.Proofs.Ytlfdljakcbfkaaa.Flo
