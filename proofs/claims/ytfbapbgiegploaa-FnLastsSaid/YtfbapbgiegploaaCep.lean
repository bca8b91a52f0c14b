/- Shares and the rank of a share: plain facts about finite floats. No program. -/
import Derived.Test.YtfbapbgiegploaaFky
import Derived.Test.YtfbapbgiegploaaFlb
namespace Go.Proofs.Ytfbapbgiegploaa.Flo
open Go Go.RowKit
set_option linter.unusedVariables false
theorem cut_any (way : Ieee.Toward) (s : Bool) (n d : Nat) : way.cut s n d ≤ n / 2 ^ d + 1 := by
  have hb : ∀ b : Bool, b.toNat ≤ 1 := fun b => by cases b <;> decide
  unfold Ieee.Toward.cut
  simp only [Nat.shiftLeft_eq, Nat.one_mul]
  by_cases h : d ≤ n.log2 + 2
  · rw [Nat.min_eq_left h]
    exact Nat.add_le_add_left (hb _) _
  · rw [Nat.min_eq_right (by omega)]
    have e2 : 2 ^ (n.log2 + 2) = 2 * 2 ^ (n.log2 + 1) := by rw [Nat.pow_succ, Nat.mul_comm]
    have h1 : n < 2 ^ (n.log2 + 1) := Nat.lt_log2_self
    have hlt : n < 2 ^ (n.log2 + 2) := by omega
    rw [Nat.div_eq_of_lt hlt]
    exact Nat.le_trans (Nat.add_le_add_left (hb _) _) (Nat.add_le_add_right (Nat.zero_le _) 1)
theorem whole_bdt {m t : Nat} {e : Int} (hb : bd m e t) : m <<< e.toNat / 2 ^ (-e).toNat ≤ 2 ^ t := by
  rw [Nat.shiftLeft_eq]
  rcases hb with rfl | ⟨h1, h2⟩
  · rw [Nat.zero_mul, Nat.zero_div]; exact Nat.zero_le _
  · by_cases he : 0 ≤ e
    · have e2 : (-e).toNat = 0 := by omega
      rw [e2, Nat.pow_zero, Nat.div_one]
      calc m * 2 ^ e.toNat ≤ 2 ^ ((t : Int) - e).toNat * 2 ^ e.toNat := Nat.mul_le_mul_right _ h2
        _ = 2 ^ t := by rw [← Nat.pow_add]; congr 1; omega
    · have e2 : e.toNat = 0 := by omega
      rw [e2, Nat.pow_zero, Nat.mul_one]
      refine Nat.div_le_of_le_mul ?_
      rw [← Nat.pow_add]
      refine Nat.le_trans h2 (Nat.pow_le_pow_right (by omega) (by omega))
/-- a small number, cut off -/
theorem int_of_bd {x : Nat} {s : Bool} {m : Nat} {e : Int} (hd : FloatKind.f64.decode x = .number s m e) (hb : bd m e (24 : Nat)) : ∃ n, floatToIntVal .f64 x .i64 = some n := by
  have h1 := Nat.le_trans (cut_any .zero s (m <<< e.toNat) (-e).toNat) (Nat.add_le_add_right (whole_bdt hb) 1)
  have h24 : 2 ^ 24 = 16777216 := rfl
  rw [h24] at h1
  have ht : (FloatKind.f64.decode x).toInt .zero = some (Ieee.signed s (Ieee.Toward.zero.cut s (m <<< e.toNat) (-e).toNat) 0) := by rw [hd]; rfl
  generalize Ieee.Toward.zero.cut s (m <<< e.toNat) (-e).toNat = q at *
  refine ⟨Ieee.signed s q 0, ?_⟩
  unfold floatToIntVal
  rw [ht]
  have e1 : IntKind.i64.min = -9223372036854775808 := rfl
  have e2 : IntKind.i64.max = 9223372036854775807 := rfl
  have e3 : Ieee.signed s q 0 = if s then -(q : Int) else (q : Int) := by unfold Ieee.signed; rw [Nat.shiftLeft_eq, Nat.pow_zero, Nat.mul_one]
  rw [e1, e2]
  simp only
  rw [if_pos]
  rw [e3]
  cases s
  · rw [if_neg (by decide)]; omega
  · rw [if_pos rfl]; omega
/-- math.Ceil of a number -/
def ceilB (x : Nat) : Nat := FloatKind.f64.encode ((FloatKind.f64.decode x).integral .up)
theorem ceil_int {x : Nat} {s : Bool} {m : Nat} {e : Int} (hd : FloatKind.f64.decode x = .number s m e) (hb : bd m e (22 : Nat)) : ∃ n, floatToIntVal .f64 (ceilB x) .i64 = some n := by
  have h1 := Nat.le_trans (cut_any .up s (m <<< e.toNat) (-e).toNat) (Nat.add_le_add_right (whole_bdt hb) 1)
  have h22 : 2 ^ 22 = 4194304 := rfl
  rw [h22] at h1
  have hc : ceilB x = FloatKind.f64.format.nearest s (Ieee.Toward.up.cut s (m <<< e.toNat) (-e).toNat) 0 := by unfold ceilB; rw [hd]; rfl
  generalize Ieee.Toward.up.cut s (m <<< e.toNat) (-e).toNat = q at *
  obtain ⟨r1, r2⟩ := f64_room (t := 24) (by omega) (by omega)
  have hq : bd q 0 24 := .inr ⟨by omega, by have e2 : ((24 : Int) - 0).toNat = 24 := rfl; rw [e2]; have h24 : 2 ^ 24 = 16777216 := rfl; omega⟩
  obtain ⟨m', e', g1, g2⟩ := nearest_bd FloatKind.f64.format s hq r1 r2
  exact int_of_bd (x := ceilB x) (s := s) (m := m') (e := e') (by rw [hc]; exact g1) g2
/-- whether a float is a share -/
def shareB (x : Nat) : Bool := (FloatKind.f32.format.order x 0 == some .gt || FloatKind.f32.format.order x 0 == some .eq) && (FloatKind.f32.format.order x 1065353216 == some .lt || FloatKind.f32.format.order x 1065353216 == some .eq)
theorem shareB_1 {x : Nat} (h : (FloatKind.f32.format.order x 0 == some .gt || FloatKind.f32.format.order x 0 == some .eq) = false) : shareB x = false := by unfold shareB; rw [h]; rfl
theorem shareB_2 {x : Nat} (h : (FloatKind.f32.format.order x 0 == some .gt || FloatKind.f32.format.order x 0 == some .eq) = true) : shareB x = (FloatKind.f32.format.order x 1065353216 == some .lt || FloatKind.f32.format.order x 1065353216 == some .eq) := by unfold shareB; rw [h]; rfl
theorem dec_one : FloatKind.f32.decode 1065353216 = .number false 8388608 (-23) := by kernel_rfl
theorem dec_zero : FloatKind.f32.decode 0 = .number false 0 (-149) := by kernel_rfl
theorem share_fin {x : Nat} (h : shareB x = true) : isFin .f32 x = true := by
  unfold shareB at h
  have e1 : FloatKind.f32.format.order x 0 = (FloatKind.f32.decode x).order (FloatKind.f32.decode 0) := rfl
  have e2 : FloatKind.f32.format.order x 1065353216 = (FloatKind.f32.decode x).order (FloatKind.f32.decode 1065353216) := rfl
  rw [e1, e2, dec_one, dec_zero] at h
  unfold isFin
  cases hd : FloatKind.f32.decode x with
  | nan s t => rw [hd] at h; simp [Ieee.Datum.order] at h
  | infinity s => rw [hd] at h; cases s <;> simp [Ieee.Datum.order] at h
  | number s m e => rfl
theorem share_bd {x : Nat} (h : shareB x = true) : ∃ s m e, FloatKind.f32.decode x = .number s m e ∧ bd m e 0 := by
  have hf := share_fin h
  obtain ⟨s, m, e, hd⟩ := isFin_number hf
  obtain ⟨_, he, _, _⟩ := decode32_number hd
  refine ⟨s, m, e, hd, ?_⟩
  have f1 : isFin .f32 1065353216 = true := by unfold isFin; rw [dec_one]
  have f0 : isFin .f32 0 = true := by unfold isFin; rw [dec_zero]
  unfold shareB at h
  rw [key_gt hf f0, key_eq hf f0, key_lt hf f1, key_eq hf f1] at h
  simp only [Bool.and_eq_true, Bool.or_eq_true, decide_eq_true_eq] at h
  have k0 : fkey 0 = 0 := by unfold fkey; rw [dec_zero]; rfl
  have k1 : fkey 1065353216 = ((2 ^ 149 : Nat) : Int) := by unfold fkey; rw [dec_one]; kernel_rfl
  have kx : fkey x = Ieee.signed s m (e + 149).toNat := by unfold fkey; rw [hd]
  rw [k0, k1, kx] at h
  have ha := signed_abs s m (e + 149).toNat
  have hle : m * 2 ^ (e + 149).toNat ≤ 2 ^ 149 := by
    generalize hg : (2 ^ 149 : Nat) = G at *
    generalize Ieee.signed s m (e + 149).toNat = z at *
    omega
  by_cases hm : m = 0
  · exact .inl hm
  · refine .inr ?_
    by_cases h0 : e ≤ 0
    · refine ⟨h0, ?_⟩
      have e3 : 149 = ((0 : Int) - e).toNat + (e + 149).toNat := by omega
      rw [e3, Nat.pow_add] at hle
      exact Nat.le_of_mul_le_mul_right hle (Nat.two_pow_pos _)
    · exfalso
      have e3 : (e + 149).toNat = (e.toNat - 1) + 150 := by omega
      have e4 : 2 ^ 150 ≤ 2 ^ (e + 149).toNat := Nat.pow_le_pow_right (by omega) (by omega)
      have e5 : 1 * 2 ^ (e + 149).toNat ≤ m * 2 ^ (e + 149).toNat := Nat.mul_le_mul_right _ (by omega)
      have e6 : 2 ^ 150 = 2 * 2 ^ 149 := by rw [Nat.pow_succ, Nat.mul_comm]
      have e7 := Nat.two_pow_pos 149
      generalize (2 ^ 149 : Nat) = G at *
      generalize (2 ^ 150 : Nat) = G' at *
      generalize 2 ^ (e + 149).toNat = U at *
      omega
theorem int_bd32 {n : Int} (h0 : 0 ≤ n) (h1 : n ≤ 2097152) : ∃ s m e, FloatKind.f32.decode (floatOfInt .f32 n) = .number s m e ∧ bd m e 21 := by
  have hfi : floatOfInt .f32 n = FloatKind.f32.format.nearest (decide (n < 0)) n.natAbs 0 := rfl
  obtain ⟨r1, r2⟩ := f32_room (t := 21) (by omega) (by omega)
  have hq : bd n.natAbs 0 21 := .inr ⟨by omega, by have e2 : ((21 : Int) - 0).toNat = 21 := rfl; rw [e2]; have h21 : 2 ^ 21 = 2097152 := rfl; omega⟩
  obtain ⟨m', e', g1, g2⟩ := nearest_bd FloatKind.f32.format (decide (n < 0)) hq r1 r2
  exact ⟨_, m', e', by rw [hfi]; exact g1, g2⟩
/-- the rank of a share, before it is bounded -/
def placeV (x : Nat) (n : Int) : Int := (((floatBits .mul .f32 x (floatOfInt .f32 n)).bind fun r => (floatToFloatBits .f32 r .f64).bind fun d => floatToIntVal .f64 (ceilB d) .i64).getD 0)
def placeR (x : Nat) (n : Int) : Int := min (max (placeV x n) 1) n
theorem placeR_lo {x : Nat} {n : Int} (h : 1 ≤ n) : 1 ≤ placeR x n := by unfold placeR; omega
theorem placeR_hi {x : Nat} {n : Int} : placeR x n ≤ n := by unfold placeR; omega
theorem place_ex {x : Nat} {n : Int} (hs : shareB x = true) (h0 : 0 ≤ n) (h1 : n ≤ 2097152) :
    ∃ r d s m e, floatBits .mul .f32 x (floatOfInt .f32 n) = some r ∧ floatToFloatBits .f32 r .f64 = some d ∧ FloatKind.f64.decode d = .number s m e ∧ floatToIntVal .f64 (ceilB d) .i64 = some (placeV x n) := by
  obtain ⟨s, m, i, d1, b1⟩ := share_bd hs
  obtain ⟨s', k, j, d2, b2⟩ := int_bd32 h0 h1
  have hm : floatBits .mul .f32 x (floatOfInt .f32 n) = some (FloatKind.f32.format.nearest (s ^^ s') (m * k) (i + j)) := by
    have e : floatBits .mul .f32 x (floatOfInt .f32 n) = ((FloatKind.f32.decode x).product (FloatKind.f32.decode (floatOfInt .f32 n))).map FloatKind.f32.format.write := rfl
    rw [e, d1, d2]; rfl
  obtain ⟨r1, r2⟩ := f32_room (t := 0 + 21) (by omega) (by omega)
  obtain ⟨m2, e2, g1, g2⟩ := nearest_bd FloatKind.f32.format (s ^^ s') (bd_mul b1 b2) r1 r2
  have hw := widen_number (b := FloatKind.f32.format.nearest (s ^^ s') (m * k) (i + j)) g1
  obtain ⟨q1, q2⟩ := f64_room (t := 22) (by omega) (by omega)
  obtain ⟨m3, e3, g3, g4⟩ := nearest_bd FloatKind.f64.format (s ^^ s') (bd_mono g2 (t' := 22) (by omega)) q1 q2
  have hd3 : FloatKind.f64.decode (FloatKind.f64.encode (.number (s ^^ s') m2 e2)) = .number (s ^^ s') m3 e3 := g3
  obtain ⟨z, hz⟩ := ceil_int hd3 g4
  refine ⟨_, _, _, _, _, hm, hw, hd3, ?_⟩
  unfold placeV
  rw [hm, Option.bind_some, hw, Option.bind_some, hz]
  rfl
end Go.Proofs.Ytfbapbgiegploaa.Flo
