/- Corrected counts, plain: a count less the mean of the others is a finite 32-bit float. No program. -/
import Derived.Test.YtfbapbgiegploaaCfp
namespace Go.Proofs.Ytfbapbgiegploaa.Flo
open Go Go.RowKit
set_option linter.unusedVariables false
/-- a whole number up to 2 ^ t, as a 32-bit float -/
theorem fI_bd {z : Int} {t : Nat} (h : z.natAbs ≤ 2 ^ t) (ht : t ≤ 100) : ∃ s m e, FloatKind.f32.decode (floatOfInt .f32 z) = .number s m e ∧ bd m e (t : Int) := by
  have hfi : floatOfInt .f32 z = FloatKind.f32.format.nearest (decide (z < 0)) z.natAbs 0 := rfl
  obtain ⟨r1, r2⟩ := f32_room (t := (t : Int)) (by omega) (by omega)
  obtain ⟨m, e, g1, g2⟩ := nearest_bd FloatKind.f32.format (decide (z < 0)) (m := z.natAbs) (e := 0) (t := (t : Int)) (.inr ⟨by omega, by rw [show ((t : Int) - 0).toNat = t by omega]; exact h⟩) r1 r2
  exact ⟨_, m, e, by rw [hfi]; exact g1, g2⟩
theorem quo_bd32 {n x : Nat} {s sg : Bool} {m k : Nat} {e i t : Int} (hd : FloatKind.f32.decode n = .number s m e) (hb : bd m e t) (hx : FloatKind.f32.decode x = .number sg k i) (hk : k ≠ 0) (hl : 0 ≤ i + k.log2) (t0 : 0 ≤ t) (t1 : t ≤ 100) :
    ∃ r s' m' e', floatBits .quo .f32 n x = some r ∧ FloatKind.f32.decode r = .number s' m' e' ∧ bd m' e' t := by
  have eq : floatBits .quo .f32 n x = ((FloatKind.f32.decode n).quotient 25 (FloatKind.f32.decode x)).map FloatKind.f32.format.write := rfl
  have hq := bd_quo25 (n := k) (j := i) hk hb
  obtain ⟨r1, r2⟩ := f32_room (t := t) (by omega) (by omega)
  obtain ⟨m', e', g1, g2⟩ := nearest_bd FloatKind.f32.format (s ^^ sg) (bd_mono hq (t' := t) (by omega)) r1 r2
  refine ⟨FloatKind.f32.format.nearest (s ^^ sg) (2 * ((m <<< (25 + k.log2 - m.log2)) / k) + ((m <<< (25 + k.log2 - m.log2)) % k != 0).toNat) (e - i - (25 + k.log2 - m.log2 : Nat) - 1), _, m', e', ?_, g1, g2⟩
  rw [eq, hd, hx]
  simp only [Ieee.Datum.quotient, if_neg hk]
  rfl
theorem sub_bd32 {x y : Nat} {s s' : Bool} {m n : Nat} {i j c : Int} (d1 : FloatKind.f32.decode x = .number s m i) (b1 : bd m i c) (d2 : FloatKind.f32.decode y = .number s' n j) (b2 : bd n j c) (h1 : 0 ≤ c) (h2 : c ≤ 100) :
    ∃ r s'' m' e', floatBits .sub .f32 x y = some r ∧ FloatKind.f32.decode r = .number s'' m' e' := by
  obtain ⟨r1, r2⟩ := f32_room (t := c + 1) (by omega) (by omega)
  have e : floatBits .sub .f32 x y = ((FloatKind.f32.decode x).sum (FloatKind.f32.decode y).opposite).map FloatKind.f32.format.write := rfl
  obtain ⟨m', e', g1, g2⟩ := nearest_bd FloatKind.f32.format (if Ieee.signed s m (i - min i j).toNat + Ieee.signed (!s') n (j - min i j).toNat = 0 then s && !s' else decide (Ieee.signed s m (i - min i j).toNat + Ieee.signed (!s') n (j - min i j).toNat < 0)) (bd_sum (s := s) (s' := !s') b1 b2) r1 r2
  refine ⟨_, _, m', e', ?_, g1⟩
  rw [e, d1, d2]
  rfl
theorem flR_c {w : World} {op : BinOp} {k : FloatKind} {x y r : Nat} (h : floatBits op k x y = some r) : flR w op k x y = r := by unfold flR; rw [h]; rfl
theorem flD_c {op : BinOp} {k : FloatKind} {x y r : Nat} (h : floatBits op k x y = some r) : flD op k x y = 0 := by unfold flD; rw [h]; rfl
/-- a count less the mean of the others -/
def corB (c o d : Int) : Nat := ((floatBits .quo .f32 (floatOfInt .f32 o) (floatOfInt .f32 d)).bind fun q => floatBits .sub .f32 (floatOfInt .f32 c) q).getD 0
structure CorOk (c o d : Int) (q : Nat) : Prop where
  e1 : floatBits .quo .f32 (floatOfInt .f32 o) (floatOfInt .f32 d) = some q
  e2 : floatBits .sub .f32 (floatOfInt .f32 c) q = some (corB c o d)
  e3 : isFin .f32 (corB c o d) = true
theorem cor_ok {c o d : Int} (hc : c.natAbs ≤ 140737488355328) (ho : o.natAbs ≤ 140737488355328) (h1 : 1 ≤ d) (h2 : d ≤ 63) : ∃ q, CorOk c o d q := by
  have e47 : (140737488355328 : Nat) = 2 ^ 47 := rfl
  obtain ⟨s1, m1, e1, a1, b1⟩ := fI_bd (t := 47) (by rw [← e47]; exact hc) (by omega)
  obtain ⟨s2, m2, e2, a2, b2⟩ := fI_bd (t := 47) (by rw [← e47]; exact ho) (by omega)
  obtain ⟨m3, e3, a3, n3, l3, _⟩ := int_both h1 (by omega)
  obtain ⟨q, s4, m4, e4, q1, a4, b4⟩ := quo_bd32 a2 b2 a3 n3 l3 (by omega) (by omega)
  obtain ⟨r, s5, m5, e5, q2, a5⟩ := sub_bd32 a1 b1 a4 b4 (by omega) (by omega)
  have hr : corB c o d = r := by
    unfold corB
    rw [q1]
    show (floatBits .sub .f32 (floatOfInt .f32 c) q).getD 0 = r
    rw [q2]; rfl
  refine ⟨q, q1, by rw [hr]; exact q2, ?_⟩
  rw [hr]
  unfold isFin
  rw [a5]
end Go.Proofs.Ytfbapbgiegploaa.Flo
