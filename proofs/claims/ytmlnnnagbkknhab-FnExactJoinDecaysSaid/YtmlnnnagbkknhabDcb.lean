/- Sums that decay: plain facts. The loss is a number with a sign, its quotient too, or infinite; the exponential function of it lies from 0 to 1. No program. -/
import Derived.Test.YtmlnnnagbkknhabExq
import Derived.Test.YtmlnnnagbkknhabCfp
namespace Go.Proofs.Ytmlnnnagbkknhab.Flo
open Go Go.RowKit
set_option linter.unusedVariables false
theorem fv_is {k : FloatKind} {b r : Nat} (h : fv k b = some r) : b = r := by
  unfold fv at h; split at h
  · cases h
  · exact Option.some.inj h
/-- order of numbers, over a common unit -/
theorem order_base {s t : Bool} {m n : Nat} {i j B : Int} (hi : B ≤ i) (hj : B ≤ j) : (Ieee.Datum.number s m i).order (.number t n j) = some (compare (Ieee.signed s m (i - B).toNat) (Ieee.signed t n (j - B).toNat)) := by
  show some (compare (Ieee.signed s m (i - min i j).toNat) (Ieee.signed t n (j - min i j).toNat)) = _
  have e2 : (i - B).toNat = (i - min i j).toNat + (min i j - B).toNat := by omega
  have e3 : (j - B).toNat = (j - min i j).toNat + (min i j - B).toNat := by omega
  rw [e2, e3, signed_mul, signed_mul, compare_scale]
theorem signed_up (s : Bool) (m k u : Nat) : Ieee.signed s (m * 2 ^ k) u = Ieee.signed s m (u + k) := by
  unfold Ieee.signed
  rw [Nat.shiftLeft_eq, Nat.shiftLeft_eq, Nat.mul_assoc, ← Nat.pow_add, Nat.add_comm]
theorem wide_any {b m : Nat} {e : Int} {s : Bool} (hd : FloatKind.f32.decode b = .number s m e) : ∃ x M E, wide (fv .f32 b) = some x ∧ FloatKind.f64.decode x = .number s M E ∧ (-1200 ≤ E) ∧ Ieee.signed s M (E - (-1200)).toNat = Ieee.signed s m (e - (-1200)).toNat := by
  obtain ⟨h1, h2, h3, _⟩ := decode32_number hd
  have hv : fv .f32 b = some b := fv_some (by rw [hd]; rfl)
  rw [hv]
  refine ⟨FloatKind.f64.encode (.number s m e), ?_⟩
  have hw : wide (some b) = some (FloatKind.f64.encode (.number s m e)) := widen_number hd
  by_cases h0 : m = 0
  · subst h0
    refine ⟨0, -1074, hw, decode_encode64_zero, by omega, ?_⟩
    unfold Ieee.signed; rw [Nat.shiftLeft_eq, Nat.shiftLeft_eq, Nat.zero_mul, Nat.zero_mul]
  · refine ⟨_, _, hw, decode_encode64 h0 h1 h2 h3, by omega, ?_⟩
    rw [signed_up]; congr 1; omega
theorem order_wide {b m n j : Nat} {e i : Int} {s t : Bool} {x c c' : Nat} (hd : FloatKind.f32.decode b = .number s m e) (hx : wide (fv .f32 b) = some x) (hc : FloatKind.f32.decode c = .number t n i) (hc' : FloatKind.f64.decode c' = .number t (n * 2 ^ j) (i - j)) (hi : -1200 ≤ i - j) :
    FloatKind.f64.format.order x c' = FloatKind.f32.format.order b c := by
  obtain ⟨y, M, E, hy, hyd, hE, hs⟩ := wide_any hd
  rw [hy] at hx
  obtain rfl := Option.some.inj hx
  obtain ⟨_, h2, _, _⟩ := decode32_number hd
  have e1 : FloatKind.f64.format.order y c' = (FloatKind.f64.decode y).order (FloatKind.f64.decode c') := rfl
  have e2 : FloatKind.f32.format.order b c = (FloatKind.f32.decode b).order (FloatKind.f32.decode c) := rfl
  rw [e1, e2, hyd, hc', hd, hc, order_base (B := -1200) hE hi, order_base (B := -1200) (by omega) (by omega), hs, signed_up]
  congr 3; omega
theorem m200 : FloatKind.f32.decode 3276275712 = .number true 13107200 (-16) := by kernel_rfl
theorem p200 : FloatKind.f32.decode 1128792064 = .number false 13107200 (-16) := by kernel_rfl
theorem m200w : FloatKind.f64.decode 13864612927836782592 = .number true (13107200 * 2 ^ 29) (-16 - (29 : Nat)) := by kernel_rfl
theorem p200w : FloatKind.f64.decode 4641240890982006784 = .number false (13107200 * 2 ^ 29) (-16 - (29 : Nat)) := by kernel_rfl
theorem not_gt {b m : Nat} {e : Int} (hd : FloatKind.f32.decode b = .number true m e) : (FloatKind.f32.format.order b 1128792064 == some .gt) = false := by
  have hb : isFin .f32 b = true := by unfold isFin; rw [hd]
  rw [key_gt hb (by unfold isFin; rw [p200])]
  refine decide_eq_false ?_
  have k1 : fkey b = -((m <<< (e + 149).toNat : Nat) : Int) := by unfold fkey; rw [hd]; rfl
  have k2 : fkey 1128792064 = ((13107200 <<< (-16 + 149 : Int).toNat : Nat) : Int) := by unfold fkey; rw [p200]; rfl
  rw [k1, k2]
  generalize (m <<< (e + 149).toNat) = A
  generalize (13107200 <<< (-16 + 149 : Int).toNat) = B
  omega
theorem lt_bd {b m : Nat} {e : Int} (hd : FloatKind.f32.decode b = .number true m e) (h : (FloatKind.f32.format.order b 3276275712 == some .lt) = false) : bd m e 8 := by
  have hb : isFin .f32 b = true := by unfold isFin; rw [hd]
  obtain ⟨_, h2, _, _⟩ := decode32_number hd
  rw [key_lt hb (by unfold isFin; rw [m200])] at h
  have h := of_decide_eq_false h
  have k1 : fkey b = -((m <<< (e + 149).toNat : Nat) : Int) := by unfold fkey; rw [hd]; rfl
  have k2 : fkey 3276275712 = -((13107200 <<< (-16 + 149 : Int).toNat : Nat) : Int) := by unfold fkey; rw [m200]; rfl
  rw [k1, k2, Nat.shiftLeft_eq, Nat.shiftLeft_eq] at h
  have hle : m * 2 ^ (e + 149).toNat ≤ 13107200 * 2 ^ (-16 + 149 : Int).toNat := by omega
  have hlt : m * 2 ^ (e + 149).toNat < 2 ^ 157 := Nat.lt_of_le_of_lt hle (by decide +kernel)
  by_cases h0 : m = 0
  · exact .inl h0
  have he : (e + 149).toNat < 157 := by
    apply Classical.byContradiction
    intro hn
    have : 2 ^ 157 ≤ 2 ^ (e + 149).toNat := Nat.pow_le_pow_right (by decide) (by omega)
    have : 1 * 2 ^ (e + 149).toNat ≤ m * 2 ^ (e + 149).toNat := Nat.mul_le_mul_right _ (by omega)
    omega
  refine .inr ⟨by omega, ?_⟩
  have e3 : (8 - e).toNat = 157 - (e + 149).toNat := by omega
  rw [e3]
  have e4 : 2 ^ 157 = 2 ^ (157 - (e + 149).toNat) * 2 ^ (e + 149).toNat := by rw [← Nat.pow_add]; congr 1; omega
  rw [e4] at hlt
  exact Nat.le_of_lt (Nat.lt_of_mul_lt_mul_right hlt)
/-- a number below 0, or -0, or infinitely less -/
def Neg (x : Nat) : Prop := (∃ m e, FloatKind.f32.decode x = .number true m e) ∨ FloatKind.f32.decode x = .infinity true
/-- what the exponential function answers of it -/
def ExpR (x r : Nat) : Prop := ((FloatKind.f32.format.order x 3276275712 == some .lt) = true ∧ r = 0) ∨ ((FloatKind.f32.format.order x 3276275712 == some .lt) = false ∧ (∃ m e, FloatKind.f32.decode x = .number true m e ∧ bd m e 8) ∧ slim (expV (wide (fv .f32 x))) = some r)
theorem exp_ex {x : Nat} (h : Neg x) : ∃ r n j, ExpR x r ∧ FloatKind.f32.decode r = .number false n j ∧ bd n j 0 := by
  cases hl : (FloatKind.f32.format.order x 3276275712 == some .lt)
  · rcases h with ⟨m, e, hd⟩ | hd
    · have hb := lt_bd hd hl
      obtain ⟨_, r, n, j, h1, h2, h3⟩ := po_slim (expV_po hd hb)
      exact ⟨r, n, j, .inr ⟨hl, ⟨m, e, hd, hb⟩, h1⟩, h2, h3⟩
    · have : FloatKind.f32.format.order x 3276275712 = some .lt := by
        have e2 : FloatKind.f32.format.order x 3276275712 = (FloatKind.f32.decode x).order (FloatKind.f32.decode 3276275712) := rfl
        rw [e2, hd, m200]; rfl
      rw [this] at hl; cases hl
  · exact ⟨0, 0, -149, .inl ⟨hl, rfl⟩, by kernel_rfl, .inl rfl⟩
theorem neg_gt {x : Nat} (h : Neg x) : (FloatKind.f32.format.order x 1128792064 == some .gt) = false := by
  rcases h with ⟨m, e, hd⟩ | hd
  · exact not_gt hd
  · have e2 : FloatKind.f32.format.order x 1128792064 = (FloatKind.f32.decode x).order (FloatKind.f32.decode 1128792064) := rfl
    rw [e2, hd, p200]; rfl
/-- widened: what the other side compares -/
theorem neg_wide {x : Nat} (h : Neg x) : ∃ y, floatToFloatBits .f32 x .f64 = some y ∧ fv .f64 y = wide (fv .f32 x) ∧ (FloatKind.f64.format.order y y == some .eq) = true ∧ (FloatKind.f64.format.order y 4641240890982006784 == some .gt) = false ∧ (FloatKind.f64.format.order y 13864612927836782592 == some .lt) = (FloatKind.f32.format.order x 3276275712 == some .lt) := by
  rcases h with ⟨m, e, hd⟩ | hd
  · obtain ⟨y, M, E, h1, h2, _, _⟩ := wide_any hd
    have hv : fv .f32 x = some x := fv_some (by rw [hd]; rfl)
    have hw : wide (fv .f32 x) = floatToFloatBits .f32 x .f64 := by rw [hv]; rfl
    refine ⟨y, by rw [← hw]; exact h1, by rw [h1]; exact fv_some (by rw [h2]; rfl), ?_, ?_, ?_⟩
    · rw [order_self, h2]; rfl
    · rw [order_wide hd h1 p200 p200w (by omega)]; exact not_gt hd
    · rw [order_wide hd h1 m200 m200w (by omega)]
  · have hv : fv .f32 x = some x := fv_some (by rw [hd]; rfl)
    have hw : wide (fv .f32 x) = floatToFloatBits .f32 x .f64 := by rw [hv]; rfl
    have h1 := widen_infinity hd
    have hy : FloatKind.f64.decode (FloatKind.f64.encode (.infinity true)) = .infinity true := by kernel_rfl
    refine ⟨_, h1, by rw [hw, h1]; exact fv_some (by rw [hy]; rfl), by kernel_rfl, by kernel_rfl, ?_⟩
    have e2 : FloatKind.f32.format.order x 3276275712 = (FloatKind.f32.decode x).order (FloatKind.f32.decode 3276275712) := rfl
    have e3 : ((Ieee.Datum.infinity true).order (.number true 13107200 (-16)) == some .lt) = true := by rfl
    have e4 : (FloatKind.f64.format.order (FloatKind.f64.encode (.infinity true)) 13864612927836782592 == some .lt) = true := by kernel_rfl
    rw [e2, hd, m200, e3, e4]
theorem loss_num : FloatKind.f32.decode 3207688728 = .number true 11629080 (-24) := by kernel_rfl
theorem dt_num {n : Int} (h0 : 0 ≤ n) (h1 : n ≤ 1000000) : ∃ m e, FloatKind.f32.decode (floatOfInt .f32 n) = .number false m e ∧ bd m e 32 := by
  by_cases h : n = 0
  · subst h; exact ⟨0, -149, by kernel_rfl, .inl rfl⟩
  · obtain ⟨m, e, hd, _, _, hb⟩ := int_both (n := n) (by omega) (by omega)
    exact ⟨m, e, hd, hb⟩
theorem loss_ex {n : Int} (h0 : 0 ≤ n) (h1 : n ≤ 1000000) : ∃ l m e, floatBits .mul .f32 3207688728 (floatOfInt .f32 n) = some l ∧ FloatKind.f32.decode l = .number true m e := by
  obtain ⟨m, e, hd, hb⟩ := dt_num h0 h1
  have e0 : floatBits .mul .f32 3207688728 (floatOfInt .f32 n) = ((FloatKind.f32.decode 3207688728).product (FloatKind.f32.decode (floatOfInt .f32 n))).map FloatKind.f32.format.write := rfl
  rw [e0, loss_num, hd]
  have hb0 : bd 11629080 (-24) 0 := .inr ⟨by omega, by decide +kernel⟩
  obtain ⟨r1, r2⟩ := f32_room (t := 0 + 32) (by omega) (by omega)
  obtain ⟨m', e', g1, g2⟩ := nearest_bd FloatKind.f32.format true (bd_mul hb0 hb) r1 r2
  exact ⟨_, m', e', rfl, g1⟩
theorem nearest_neg (m : Nat) (e : Int) : Neg (FloatKind.f32.format.nearest true m e) := by
  by_cases h0 : m = 0
  · subst h0
    obtain ⟨r1, r2⟩ := f32_room (t := 0) (by omega) (by omega)
    obtain ⟨m', e', g1, g2⟩ := nearest_bd FloatKind.f32.format true (m := 0) (e := e) (t := 0) (.inl rfl) r1 r2
    exact .inl ⟨m', e', g1⟩
  · rw [nearest_rung _ _ _ h0]
    by_cases hr : rungOf FloatKind.f32.format true m e < FloatKind.f32.format.infRung
    · rw [Nat.min_eq_left (by omega)]
      left
      have := read_wordf FloatKind.f32.format true _ hr
      by_cases hb : rungOf FloatKind.f32.format true m e < FloatKind.f32.format.binade
      · rw [if_pos hb] at this; exact ⟨_, _, this⟩
      · rw [if_neg hb] at this; exact ⟨_, _, this⟩
    · rw [Nat.min_eq_right (by omega)]
      right
      kernel_rfl
theorem quo_neg32 {l h m n : Nat} {e j : Int} {s : Bool} (hl : FloatKind.f32.decode l = .number true m e) (hh : FloatKind.f32.decode h = .number false n j) (hn : n ≠ 0) : ∃ x, floatBits .quo .f32 l h = some x ∧ Neg x := by
  have e0 : floatBits .quo .f32 l h = ((FloatKind.f32.decode l).quotient 25 (FloatKind.f32.decode h)).map FloatKind.f32.format.write := rfl
  rw [e0, hl, hh]
  simp only [Ieee.Datum.quotient, if_neg hn]
  exact ⟨_, rfl, nearest_neg _ _⟩
theorem gt0_num {h : Nat} (hf : isFin .f32 h = true) (hg : (FloatKind.f32.format.order h 0 == some .gt) = true) : ∃ n j, FloatKind.f32.decode h = .number false n j ∧ n ≠ 0 := by
  obtain ⟨s, n, j, hd⟩ := isFin_number hf
  have z0 : FloatKind.f32.decode 0 = .number false 0 (-149) := by kernel_rfl
  rw [key_gt hf (by unfold isFin; rw [z0])] at hg
  have hg := of_decide_eq_true hg
  have k1 : fkey h = Ieee.signed s n (j + 149).toNat := by unfold fkey; rw [hd]
  have k2 : fkey 0 = 0 := by unfold fkey; rw [z0]; rfl
  rw [k1, k2] at hg
  cases s
  · refine ⟨n, j, hd, fun h0 => ?_⟩
    subst h0
    have : Ieee.signed false 0 (j + 149).toNat = ((0 <<< (j + 149).toNat : Nat) : Int) := rfl
    rw [this, Nat.shiftLeft_eq, Nat.zero_mul] at hg
    omega
  · have : Ieee.signed true n (j + 149).toNat = -((n <<< (j + 149).toNat : Nat) : Int) := rfl
    rw [this] at hg
    generalize (n <<< (j + 149).toNat) = A at hg
    omega
/-- what a sum is at a time -/
structure DecR (h s : Nat) (n : Int) (l x e v : Nat) : Prop where
  loss : floatBits .mul .f32 3207688728 (floatOfInt .f32 n) = some l
  quo : floatBits .quo .f32 l h = some x
  neg : Neg x
  exp : ExpR x e
  mul : floatBits .mul .f32 s e = some v
  fin : isFin .f32 v = true
theorem decay_ex {h s : Nat} {n : Int} (h1 : isFin .f32 h = true) (h2 : (FloatKind.f32.format.order h 0 == some .gt) = true) (h3 : isFin .f32 s = true) (h4 : 0 ≤ n) (h5 : n ≤ 1000000) : ∃ l x e v, DecR h s n l x e v := by
  obtain ⟨l, m, i, a1, a2⟩ := loss_ex h4 h5
  obtain ⟨k, j, b1, b2⟩ := gt0_num h1 h2
  obtain ⟨x, c1, c2⟩ := quo_neg32 (s := true) a2 b1 b2
  obtain ⟨e, ne, je, d1, d2, d3⟩ := exp_ex c2
  obtain ⟨ss, sm, si, f1⟩ := isFin_number h3
  obtain ⟨v, g1, g2⟩ := mul_le1 f1 d2 d3
  exact ⟨l, x, e, v, a1, c1, c2, d1, g1, g2⟩
end Go.Proofs.Ytmlnnnagbkknhab.Flo
