/- Plain facts about floating-point words: values with all NaNs as one, exact widening, comparisons. No program. -/
import Derived.WalkKit
import Derived.WalkLawsBesides
import Derived.Deep.Draws
import Derived.Lib.Hide
import Derived.Below
namespace Go.Proofs.Ytfbapbgiegploaa.Flo
open Go Go.RowKit

/-- a float as a value: nothing is a NaN, whatever its bits -/
def fv (k : FloatKind) (b : Nat) : Option Nat := if (k.decode b).isNaN then none else some b

def fop (op : BinOp) (k : FloatKind) : Option Nat → Option Nat → Option Nat
  | some x, some y => floatBits op k x y
  | _, _ => none

def ford (k : FloatKind) : Option Nat → Option Nat → Option Ordering
  | some x, some y => k.format.order x y
  | _, _ => none

theorem isNaN_iff (d : Ieee.Datum) : d.isNaN = true ↔ ∃ s t, d = .nan s t := by
  cases d <;> simp [Ieee.Datum.isNaN]

theorem sum_nan_left {d e : Ieee.Datum} (h : d.isNaN = true) : d.sum e = none := by
  obtain ⟨s, t, rfl⟩ := (isNaN_iff _).1 h; cases e <;> rfl
theorem sum_nan_right {d e : Ieee.Datum} (h : e.isNaN = true) : d.sum e = none := by
  obtain ⟨s, t, rfl⟩ := (isNaN_iff _).1 h; cases d <;> rfl
theorem product_nan_left {d e : Ieee.Datum} (h : d.isNaN = true) : d.product e = none := by
  obtain ⟨s, t, rfl⟩ := (isNaN_iff _).1 h; cases e <;> rfl
theorem product_nan_right {d e : Ieee.Datum} (h : e.isNaN = true) : d.product e = none := by
  obtain ⟨s, t, rfl⟩ := (isNaN_iff _).1 h; cases d <;> rfl
theorem quotient_nan_left {n : Nat} {d e : Ieee.Datum} (h : d.isNaN = true) : d.quotient n e = none := by
  obtain ⟨s, t, rfl⟩ := (isNaN_iff _).1 h; cases e <;> rfl
theorem quotient_nan_right {n : Nat} {d e : Ieee.Datum} (h : e.isNaN = true) : d.quotient n e = none := by
  obtain ⟨s, t, rfl⟩ := (isNaN_iff _).1 h; cases d <;> rfl
theorem opposite_nan {d : Ieee.Datum} (h : d.isNaN = true) : d.opposite.isNaN = true := by
  obtain ⟨s, t, rfl⟩ := (isNaN_iff _).1 h; rfl
theorem order_nan_left {d e : Ieee.Datum} (h : d.isNaN = true) : d.order e = none := by
  obtain ⟨s, t, rfl⟩ := (isNaN_iff _).1 h; cases e <;> rfl
theorem order_nan_right {d e : Ieee.Datum} (h : e.isNaN = true) : d.order e = none := by
  obtain ⟨s, t, rfl⟩ := (isNaN_iff _).1 h; cases d <;> rfl

theorem floatBits_nan_left {op : BinOp} {k : FloatKind} {x y : Nat} (h : (k.decode x).isNaN = true) : floatBits op k x y = none := by
  unfold FloatKind.decode at h
  cases op <;> simp [floatBits, Ieee.Format.add, Ieee.Format.sub, Ieee.Format.mul, Ieee.Format.div, sum_nan_left h, product_nan_left h, quotient_nan_left h]
theorem floatBits_nan_right {op : BinOp} {k : FloatKind} {x y : Nat} (h : (k.decode y).isNaN = true) : floatBits op k x y = none := by
  unfold FloatKind.decode at h
  cases op <;> simp [floatBits, Ieee.Format.add, Ieee.Format.sub, Ieee.Format.mul, Ieee.Format.div, sum_nan_right h, sum_nan_right (opposite_nan h), product_nan_right h, quotient_nan_right h]

theorem floatBits_fop (op : BinOp) (k : FloatKind) (x y : Nat) : floatBits op k x y = fop op k (fv k x) (fv k y) := by
  unfold fv fop
  by_cases hx : (k.decode x).isNaN = true
  · simp [hx, floatBits_nan_left hx]
  · by_cases hy : (k.decode y).isNaN = true
    · simp [hy, floatBits_nan_right hy]
    · simp [hx, hy]

theorem order_ford (k : FloatKind) (x y : Nat) : k.format.order x y = ford k (fv k x) (fv k y) := by
  unfold fv ford
  by_cases hx : (k.decode x).isNaN = true
  · simp only [hx, if_true]; exact order_nan_left hx
  · by_cases hy : (k.decode y).isNaN = true
    · simp only [hy, if_true]
      have := order_nan_right (d := k.decode x) hy
      split <;> first | exact this | simp_all
    · simp [hx, hy]

theorem read_word (f : Ieee.Format) (s : Bool) (r : Nat) (h : r ≤ f.infRung) : (f.read (f.word s r)).isNaN = false := by
  have hlt := f.infRung_lt
  have hr : r < f.signWeight := Nat.lt_of_le_of_lt h hlt
  have hm : f.word s r % f.signWeight = r := by
    unfold Ieee.Format.word; split
    · rw [Nat.add_mod_left]; exact Nat.mod_eq_of_lt hr
    · exact Nat.mod_eq_of_lt hr
  unfold Ieee.Format.read
  simp only [hm]
  split
  · rfl
  · split
    · rfl
    · split
      · rfl
      · omega

theorem nearest_notNaN (f : Ieee.Format) (s : Bool) (m : Nat) (e : Int) : (f.read (f.nearest s m e)).isNaN = false := by
  unfold Ieee.Format.nearest
  dsimp only
  split
  · exact read_word f s 0 (Nat.zero_le _)
  · exact read_word f s _ (Nat.min_le_right ..)

theorem write_notNaN (f : Ieee.Format) (d : Ieee.Datum) (h : d.isNaN = false) : (f.read (f.write d)).isNaN = false := by
  cases d with
  | number s m e => exact nearest_notNaN f s m e
  | infinity s => exact read_word f s _ (Nat.le_refl _)
  | nan s t => simp [Ieee.Datum.isNaN] at h

theorem sum_notNaN {d e r : Ieee.Datum} (h : d.sum e = some r) : r.isNaN = false := by
  cases d <;> cases e <;> simp only [Ieee.Datum.sum] at h <;> (try split at h) <;> cases h <;> rfl
theorem product_notNaN {d e r : Ieee.Datum} (h : d.product e = some r) : r.isNaN = false := by
  cases d <;> cases e <;> simp only [Ieee.Datum.product] at h <;> (try split at h) <;> cases h <;> rfl
theorem quotient_notNaN {n : Nat} {d e r : Ieee.Datum} (h : d.quotient n e = some r) : r.isNaN = false := by
  cases d <;> cases e <;> simp only [Ieee.Datum.quotient] at h <;> (repeat' split at h) <;> cases h <;> rfl

theorem floatBits_notNaN {op : BinOp} {k : FloatKind} {x y r : Nat} (h : floatBits op k x y = some r) : (k.decode r).isNaN = false := by
  unfold FloatKind.decode
  cases op <;> simp only [floatBits, Ieee.Format.add, Ieee.Format.sub, Ieee.Format.mul, Ieee.Format.div, Option.map_eq_some_iff] at h
  case add => obtain ⟨a, h1, rfl⟩ := h; exact write_notNaN _ _ (sum_notNaN h1)
  case sub => obtain ⟨a, h1, rfl⟩ := h; exact write_notNaN _ _ (sum_notNaN h1)
  case mul => obtain ⟨a, h1, rfl⟩ := h; exact write_notNaN _ _ (product_notNaN h1)
  case quo => obtain ⟨a, h1, rfl⟩ := h; exact write_notNaN _ _ (quotient_notNaN h1)
  all_goals cases h

theorem cut_nanBits (k : FloatKind) (x y t : Nat) : (k.decode ((Question.nanBits k x y).cut t)).isNaN = true ∧ (Question.nanBits k x y).cut t < 2 ^ k.format.width := by
  cases k
  · simp only [Question.cut, FloatKind.decode, FloatKind.format, Ieee.Format.read, Ieee.single, Ieee.Format.width]
    have h1 : Ieee.Format.signWeight { exponentBits := 8, fractionBits := 23 } = 2147483648 := rfl
    have h2 : Ieee.Format.binade { exponentBits := 8, fractionBits := 23 } = 8388608 := rfl
    have h3 : Ieee.Format.infRung { exponentBits := 8, fractionBits := 23 } = 2139095040 := rfl
    simp only [h1, h2, h3]
    have e : (t % 2 * 2 ^ 31 + 2139095040 + 1 + t / 2 % (2 ^ 23 - 1)) % 2147483648 = 2139095040 + 1 + t / 2 % (2 ^ 23 - 1) := by omega
    refine ⟨?_, by omega⟩
    rw [e]
    rw [if_neg (by omega), if_neg (by omega), if_neg (by omega)]
    rfl
  · simp only [Question.cut, FloatKind.decode, FloatKind.format, Ieee.Format.read, Ieee.double, Ieee.Format.width]
    have h1 : Ieee.Format.signWeight { exponentBits := 11, fractionBits := 52 } = 9223372036854775808 := rfl
    have h2 : Ieee.Format.binade { exponentBits := 11, fractionBits := 52 } = 4503599627370496 := rfl
    have h3 : Ieee.Format.infRung { exponentBits := 11, fractionBits := 52 } = 9218868437227405312 := rfl
    simp only [h1, h2, h3]
    have e : (t % 2 * 2 ^ 63 + 9218868437227405312 + 1 + t / 2 % (2 ^ 52 - 1)) % 9223372036854775808 = 9218868437227405312 + 1 + t / 2 % (2 ^ 52 - 1) := by omega
    refine ⟨?_, by omega⟩
    rw [e]
    rw [if_neg (by omega), if_neg (by omega), if_neg (by omega)]
    rfl

/-- what the model gives for an operation on floats: its bits (of a NaN: off the tape), and how many draws -/
def flR (w : World) (op : BinOp) (k : FloatKind) (x y : Nat) : Nat := (floatBits op k x y).getD ((Question.nanBits k x y).cut (w.tape w.drawn (.nanBits k x y)))
def flD (op : BinOp) (k : FloatKind) (x y : Nat) : Nat := if (floatBits op k x y).isSome then 0 else 1

theorem fv_flR (w : World) (op : BinOp) (k : FloatKind) (x y : Nat) : fv k (flR w op k x y) = fop op k (fv k x) (fv k y) := by
  rw [← floatBits_fop]
  unfold flR
  cases h : floatBits op k x y with
  | none => simp [fv, (cut_nanBits k x y _).1]
  | some r => simp [fv, floatBits_notNaN h]

theorem lt_of_wf {k : FloatKind} {r : Nat} (h : (Lit.float k r).wf = true) : r < 2 ^ k.format.width := by
  cases k <;> simpa [Lit.wf, FloatKind.format, Ieee.single, Ieee.double, Ieee.Format.width] using h

theorem flR_lt (w : World) (op : BinOp) (k : FloatKind) (x y : Nat) : flR w op k x y < 2 ^ k.format.width := by
  unfold flR
  cases h : floatBits op k x y with
  | none => exact (cut_nanBits k x y _).2
  | some r => exact lt_of_wf (floatBits_wf h)

section
variable {P : Program} (w : World) (t : TypeId) (k : FloatKind) (x y : Nat)
theorem run_fl_of (op : BinOp) (hop : op = .add ∨ op = .sub ∨ op = .mul ∨ op = .quo) : (binOp op t (.float k x) (.float k y)).run P w = .ok (.float k (flR w op k x y)) (w.drewN (flD op k x y)) := by
  cases h : floatBits op k x y with
  | some r =>
    rw [run_float_arith w op t k x y r h]
    simp [flR, flD, h, World.drewN_zero]
  | none =>
    simp only [flR, flD, h]
    unfold floatBits at h
    rcases hop with rfl | rfl | rfl | rfl <;> simp only at h <;> simp [binOp, Op.floatArith, h, Question.forced] <;> rfl
theorem run_fl_add : (binOp .add t (.float k x) (.float k y)).run P w = .ok (.float k (flR w .add k x y)) (w.drewN (flD .add k x y)) := run_fl_of w t k x y _ (by simp)
theorem run_fl_sub : (binOp .sub t (.float k x) (.float k y)).run P w = .ok (.float k (flR w .sub k x y)) (w.drewN (flD .sub k x y)) := run_fl_of w t k x y _ (by simp)
theorem run_fl_mul : (binOp .mul t (.float k x) (.float k y)).run P w = .ok (.float k (flR w .mul k x y)) (w.drewN (flD .mul k x y)) := run_fl_of w t k x y _ (by simp)
theorem run_fl_quo : (binOp .quo t (.float k x) (.float k y)).run P w = .ok (.float k (flR w .quo k x y)) (w.drewN (flD .quo k x y)) := run_fl_of w t k x y _ (by simp)
end


theorem single_sw : Ieee.single.signWeight = 2147483648 := rfl
theorem single_bin : Ieee.single.binade = 8388608 := rfl
theorem single_inf : Ieee.single.infRung = 2139095040 := rfl
theorem single_least : Ieee.single.leastPlace = -149 := rfl
theorem double_sw : Ieee.double.signWeight = 9223372036854775808 := rfl
theorem double_bin : Ieee.double.binade = 4503599627370496 := rfl
theorem double_inf : Ieee.double.infRung = 9218868437227405312 := rfl
theorem double_least : Ieee.double.leastPlace = -1074 := rfl

/-- what a finite 32-bit word reads as -/
theorem decode32_number {b : Nat} {s : Bool} {m : Nat} {e : Int} (h : FloatKind.f32.decode b = .number s m e) :
    m < 2 ^ 24 ∧ -149 ≤ e ∧ e ≤ 104 ∧ (2 ^ 23 ≤ m ∨ e = -149) := by
  have h : Ieee.single.read b = .number s m e := h
  unfold Ieee.Format.read at h
  simp only at h
  by_cases h1 : b % Ieee.single.signWeight < Ieee.single.binade
  · rw [if_pos h1] at h
    obtain ⟨_, h3, h4⟩ := Ieee.Datum.number.inj h
    clear h
    rw [single_sw] at h1 h3
    rw [single_bin] at h1
    rw [single_least] at h4
    omega
  · rw [if_neg h1] at h
    by_cases h2 : b % Ieee.single.signWeight < Ieee.single.infRung
    · rw [if_pos h2] at h
      obtain ⟨_, h3, h4⟩ := Ieee.Datum.number.inj h
      clear h
      rw [single_sw] at h1 h2 h3 h4
      rw [single_bin] at h1 h3 h4
      rw [single_inf] at h2
      rw [single_least] at h4
      omega
    · rw [if_neg h2] at h
      by_cases h3 : b % Ieee.single.signWeight = Ieee.single.infRung
      · rw [if_pos h3] at h; cases h
      · rw [if_neg h3] at h; cases h

theorem log2_bounds {m : Nat} (h : m ≠ 0) : 2 ^ m.log2 ≤ m ∧ m < 2 ^ (m.log2 + 1) := ⟨Nat.log2_self_le h, Nat.lt_log2_self⟩

theorem log2_lt24 {m : Nat} (h0 : m ≠ 0) (h : m < 2 ^ 24) : m.log2 < 24 := (Nat.log2_lt h0).2 h

theorem shl_bounds {m : Nat} (h : m ≠ 0) {n : Nat} (hn : m.log2 ≤ n) : 2 ^ n ≤ m * 2 ^ (n - m.log2) ∧ m * 2 ^ (n - m.log2) < 2 ^ (n + 1) := by
  obtain ⟨h1, h2⟩ := log2_bounds h
  constructor
  · calc 2 ^ n = 2 ^ m.log2 * 2 ^ (n - m.log2) := by rw [← Nat.pow_add]; congr 1; omega
      _ ≤ _ := Nat.mul_le_mul_right _ h1
  · calc m * 2 ^ (n - m.log2) < 2 ^ (m.log2 + 1) * 2 ^ (n - m.log2) := Nat.mul_lt_mul_of_pos_right h2 (Nat.two_pow_pos _)
      _ = 2 ^ (n + 1) := by rw [← Nat.pow_add]; congr 1; omega

/-- nothing is dropped: the cut is the number itself -/
theorem cut_zero (s : Bool) (n : Nat) : Ieee.Toward.even.cut s n 0 = n := by
  simp [Ieee.Toward.cut, Nat.mod_one]

/-- the 64-bit word of a number that a 32-bit word reads as -/
theorem encode64 {s : Bool} {m : Nat} {e : Int} (h0 : m ≠ 0) (hm : m < 2 ^ 24) (he : -149 ≤ e) (he' : e ≤ 104) :
    FloatKind.f64.encode (.number s m e) = Ieee.double.word s ((e + m.log2 + 1022).toNat * 4503599627370496 + m * 2 ^ (52 - m.log2)) := by
  have hl := log2_lt24 h0 hm
  obtain ⟨b1, b2⟩ := shl_bounds h0 (n := 52) (by omega)
  simp only [FloatKind.encode, FloatKind.format, Ieee.Format.write, Ieee.Format.nearest, if_neg h0, double_least, double_bin, double_inf]
  have hlast : max (e + (m.log2 : Int) - (Ieee.double.fractionBits : Int)) (-1074) = e + (m.log2 : Int) - 52 := by
    show max (e + (m.log2 : Int) - 52) (-1074) = _
    omega
  rw [hlast]
  have e1 : (e - (e + (m.log2 : Int) - 52)).toNat = 52 - m.log2 := by omega
  have e2 : (e + (m.log2 : Int) - 52 - e).toNat = 0 := by omega
  rw [e1, e2, cut_zero, Nat.shiftLeft_eq]
  congr 1
  have e3 : (e + (m.log2 : Int) - 52 - (-1074)).toNat = (e + (m.log2 : Int) + 1022).toNat := by congr 1; omega
  rw [e3]
  apply Nat.min_eq_left
  have e4 : (e + (m.log2 : Int) + 1022).toNat ≤ 1149 := by omega
  have b2' : m * 2 ^ (52 - m.log2) < 9007199254740992 := b2
  calc (e + (m.log2 : Int) + 1022).toNat * 4503599627370496 + m * 2 ^ (52 - m.log2) ≤ 1149 * 4503599627370496 + 9007199254740992 := Nat.add_le_add (Nat.mul_le_mul_right _ e4) (Nat.le_of_lt b2')
    _ ≤ _ := by decide

theorem read_wordf (f : Ieee.Format) (s : Bool) (r : Nat) (h : r < f.infRung) :
    f.read (f.word s r) = if r < f.binade then .number s r f.leastPlace else .number s (f.binade + r % f.binade) (f.leastPlace + (r / f.binade - 1 : Nat)) := by
  have hlt := f.infRung_lt
  have hr : r < f.signWeight := Nat.lt_trans h hlt
  have hp : 0 < f.signWeight := by omega
  have hm : f.word s r % f.signWeight = r := by
    unfold Ieee.Format.word; split
    · rw [Nat.add_mod_left]; exact Nat.mod_eq_of_lt hr
    · exact Nat.mod_eq_of_lt hr
  have hs : (f.word s r / f.signWeight % 2 == 1) = s := by
    unfold Ieee.Format.word; cases s
    · simp [Nat.div_eq_of_lt hr]
    · simp only [if_true]; rw [Nat.add_div_left _ hp, Nat.div_eq_of_lt hr]; rfl
  unfold Ieee.Format.read
  simp only [hm, hs]
  by_cases hb : r < f.binade
  · rw [if_pos hb, if_pos hb]
  · rw [if_neg hb, if_neg hb, if_pos h]

/-- WIDENING IS EXACT: what the 64-bit word reads as. -/
theorem decode_encode64 {s : Bool} {m : Nat} {e : Int} (h0 : m ≠ 0) (hm : m < 2 ^ 24) (he : -149 ≤ e) (he' : e ≤ 104) :
    FloatKind.f64.decode (FloatKind.f64.encode (.number s m e)) = .number s (m * 2 ^ (52 - m.log2)) (e - (52 - m.log2 : Nat)) := by
  have hl := log2_lt24 h0 hm
  obtain ⟨b1, b2⟩ := shl_bounds h0 (n := 52) (by omega)
  rw [encode64 h0 hm he he']
  generalize hk : m * 2 ^ (52 - m.log2) = k at *
  have b1' : 4503599627370496 ≤ k := b1
  have b2' : k < 9007199254740992 := b2
  generalize hj : (e + (m.log2 : Int) + 1022).toNat = j
  have hj' : (j : Int) = e + m.log2 + 1022 := by omega
  show Ieee.double.read _ = _
  rw [read_wordf]
  · rw [if_neg (by rw [double_bin]; omega), double_bin, double_least]
    have a1 : (j * 4503599627370496 + k) % 4503599627370496 = k - 4503599627370496 := by omega
    have a2 : (j * 4503599627370496 + k) / 4503599627370496 = j + 1 := by omega
    rw [a1, a2]
    have c1 : 4503599627370496 + (k - 4503599627370496) = k := by omega
    have c2 : (-1074 : Int) + ((j + 1 - 1 : Nat) : Int) = e - (52 - m.log2 : Nat) := by omega
    rw [c1, c2]
  · rw [double_inf]; omega

theorem decode_encode64_zero {s : Bool} {e : Int} : FloatKind.f64.decode (FloatKind.f64.encode (.number s 0 e)) = .number s 0 (-1074) := by
  simp only [FloatKind.encode, FloatKind.decode, FloatKind.format, Ieee.Format.write, Ieee.Format.nearest, if_true]
  cases s <;> rfl

/-- A FINITE 32-bit word, widened: no infinity, and what it reads as. -/
theorem widen_number {b : Nat} {s : Bool} {m : Nat} {e : Int} (h : FloatKind.f32.decode b = .number s m e) :
    floatToFloatBits .f32 b .f64 = some (FloatKind.f64.encode (.number s m e)) := by
  obtain ⟨h1, h2, h3, _⟩ := decode32_number h
  unfold floatToFloatBits
  rw [if_neg (by decide), h]
  simp only
  rw [if_neg]
  by_cases h0 : m = 0
  · subst h0; rw [decode_encode64_zero]; simp [Ieee.Datum.isInfinity]
  · rw [decode_encode64 h0 h1 h2 h3]; simp [Ieee.Datum.isInfinity]

theorem widen_infinity {b : Nat} {s : Bool} (h : FloatKind.f32.decode b = .infinity s) : floatToFloatBits .f32 b .f64 = some (FloatKind.f64.encode (.infinity s)) := by
  unfold floatToFloatBits
  rw [if_neg (by decide), h]

/-- float64(x) of a float32 -/
def wide : Option Nat → Option Nat
  | some b => floatToFloatBits .f32 b .f64
  | none => none

/-- float32(x) of a float64: 'none' for a NaN and where the number is too great -/
def slim : Option Nat → Option Nat
  | some b => floatToFloatBits .f64 b .f32
  | none => none

/-- is it narrowed to what the language fixes? -/
def slimOk (x : Option Nat) : Prop := x = none ∨ (slim x).isSome = true

theorem cut_nanConv (k : FloatKind) (x t : Nat) : (k.decode ((Question.nanConv k x).cut t)).isNaN = true ∧ (Question.nanConv k x).cut t < 2 ^ k.format.width := by
  have := cut_nanBits k x x t
  cases k <;> exact this

/-- what the model gives for a conversion between the two kinds -/
def convR (w : World) (src : FloatKind) (b : Nat) (dst : FloatKind) : Nat :=
  (floatToFloatBits src b dst).getD (if (src.decode b).isNaN then (Question.nanConv dst b).cut (w.tape w.drawn (.nanConv dst b)) else (Question.floatToFloat b).cut (w.tape w.drawn (.floatToFloat b)))
def convD (src : FloatKind) (b : Nat) (dst : FloatKind) : Nat := if (floatToFloatBits src b dst).isSome then 0 else 1

theorem run_conv {P : Program} (w : World) (src dst : TypeId) (s k : FloatKind) (b : Nat) (hs : (P.underlying src).isSome = true) (hd : P.underlying dst = some (.float k)) :
    (convert src dst (.float s b)).run P w = .ok (.float k (convR w s b k)) (w.drewN (convD s b k)) := by
  cases h : floatToFloatBits s b k with
  | some r =>
    rw [run_convert_float_float w src dst s k b r hs hd h]
    simp [convR, convD, h, World.drewN_zero]
  | none =>
    obtain ⟨u, hs'⟩ := Option.isSome_iff_exists.1 hs
    unfold floatToFloatBits at h
    split at h
    · cases h
    · rename_i hne
      have hn : floatToFloatBits s b k = none := by unfold floatToFloatBits; rw [if_neg hne]; exact h
      simp only [convR, convD, hn]
      split at h
      · rename_i sg t he
        cases u <;> simp [convert, run_underlying hs', run_underlying hd, Conv.floatToFloat, hne, he, Question.forced, Ieee.Datum.isNaN] <;> rfl
      · cases h
      · rename_i sg m e he
        split at h
        · rename_i hi
          cases u <;> simp [convert, run_underlying hs', run_underlying hd, Conv.floatToFloat, hne, he, hi, Question.forced, Ieee.Datum.isNaN] <;> rfl
        · cases h

theorem fv_wideR (w : World) (b : Nat) : fv .f64 (convR w .f32 b .f64) = wide (fv .f32 b) := by
  cases h : FloatKind.f32.decode b with
  | nan s t =>
    have hn : floatToFloatBits .f32 b .f64 = none := by unfold floatToFloatBits; rw [if_neg (by decide), h]
    have h1 : (FloatKind.f32.decode b).isNaN = true := by rw [h]; rfl
    have h2 : fv .f32 b = none := by unfold fv; rw [if_pos h1]
    rw [h2]
    unfold fv convR
    rw [hn, if_pos h1, Option.getD_none, if_pos (cut_nanConv .f64 b _).1]
    rfl
  | infinity s =>
    have hw := widen_infinity h
    have h1 : (FloatKind.f32.decode b).isNaN = false := by rw [h]; rfl
    have h2 : fv .f32 b = some b := by unfold fv; rw [h1]; rfl
    have h3 : (FloatKind.f64.decode (FloatKind.f64.encode (.infinity s))).isNaN = false := write_notNaN Ieee.double (.infinity s) rfl
    rw [h2]
    have h4 : wide (some b) = floatToFloatBits .f32 b .f64 := rfl
    rw [h4, hw]
    unfold convR
    rw [hw, Option.getD_some]
    unfold fv
    rw [h3]
    rfl
  | number s m e =>
    have hw := widen_number h
    have h1 : (FloatKind.f32.decode b).isNaN = false := by rw [h]; rfl
    have h2 : fv .f32 b = some b := by unfold fv; rw [h1]; rfl
    have h3 : (FloatKind.f64.decode (FloatKind.f64.encode (.number s m e))).isNaN = false := write_notNaN Ieee.double (.number s m e) rfl
    rw [h2]
    have h4 : wide (some b) = floatToFloatBits .f32 b .f64 := rfl
    rw [h4, hw]
    unfold convR
    rw [hw, Option.getD_some]
    unfold fv
    rw [h3]
    rfl

theorem slim_notNaN {b r : Nat} (h : floatToFloatBits .f64 b .f32 = some r) : (FloatKind.f32.decode r).isNaN = false := by
  unfold floatToFloatBits at h
  rw [if_neg (by decide)] at h
  split at h
  · cases h
  · cases h; exact write_notNaN Ieee.single _ rfl
  · split at h
    · cases h
    · cases h; exact write_notNaN Ieee.single _ rfl

theorem fv_slimR (w : World) (b : Nat) (h : slimOk (fv .f64 b)) : fv .f32 (convR w .f64 b .f32) = slim (fv .f64 b) := by
  by_cases hn : (FloatKind.f64.decode b).isNaN = true
  · have hs : floatToFloatBits .f64 b .f32 = none := by
      obtain ⟨s, t, he⟩ := (isNaN_iff _).1 hn
      unfold floatToFloatBits; rw [if_neg (by decide), he]
    simp only [convR, hs, hn, fv, slim, if_true, Option.getD_none]
    rw [if_pos (cut_nanConv .f32 b _).1]
  · have hf : fv .f64 b = some b := by simp [fv, hn]
    rw [hf] at h ⊢
    rcases h with h | h
    · cases h
    · simp only [slim] at h ⊢
      obtain ⟨r, hr⟩ := Option.isSome_iff_exists.1 h
      simp [convR, hr, fv, slim_notNaN hr]

theorem convR_lt (w : World) (s : FloatKind) (b : Nat) (k : FloatKind) (hb : b < 2 ^ s.format.width) : convR w s b k < 2 ^ k.format.width := by
  unfold convR
  cases h : floatToFloatBits s b k with
  | some r =>
    simp only [Option.getD_some]
    refine lt_of_wf (floatToFloatBits_wf ?_ h)
    exact wf_of_lt s b hb
  | none =>
    simp only [Option.getD_none]
    split
    · exact (cut_nanConv k b _).2
    · have : (Question.floatToFloat b).cut (w.tape w.drawn (.floatToFloat b)) < 2 ^ 32 := Nat.mod_lt _ (Nat.two_pow_pos _)
      cases k
      · exact this
      · exact Nat.lt_trans this (Nat.pow_lt_pow_right (by omega) (by show 32 < 64; omega))


def isFin (k : FloatKind) (b : Nat) : Bool := match k.decode b with | .number .. => true | _ => false

theorem decode64_number {b : Nat} {s : Bool} {m : Nat} {e : Int} (h : FloatKind.f64.decode b = .number s m e) :
    m < 2 ^ 53 ∧ -1074 ≤ e ∧ e ≤ 971 := by
  have h : Ieee.double.read b = .number s m e := h
  unfold Ieee.Format.read at h
  simp only at h
  by_cases h1 : b % Ieee.double.signWeight < Ieee.double.binade
  · rw [if_pos h1] at h
    obtain ⟨_, h3, h4⟩ := Ieee.Datum.number.inj h
    clear h
    rw [double_sw] at h1 h3
    rw [double_bin] at h1
    rw [double_least] at h4
    omega
  · rw [if_neg h1] at h
    by_cases h2 : b % Ieee.double.signWeight < Ieee.double.infRung
    · rw [if_pos h2] at h
      obtain ⟨_, h3, h4⟩ := Ieee.Datum.number.inj h
      clear h
      rw [double_sw] at h1 h2 h3 h4
      rw [double_bin] at h1 h3 h4
      rw [double_inf] at h2
      rw [double_least] at h4
      omega
    · rw [if_neg h2] at h
      by_cases h3 : b % Ieee.double.signWeight = Ieee.double.infRung
      · rw [if_pos h3] at h; cases h
      · rw [if_neg h3] at h; cases h

/-- the sign struck -/
def Dabs : Ieee.Datum → Ieee.Datum
  | .number _ m e => .number false m e
  | .infinity _ => .infinity false
  | .nan _ t => .nan false t

theorem read_abs (f : Ieee.Format) (b : Nat) : f.read (b % f.signWeight) = Dabs (f.read b) := by
  have hp : 0 < f.signWeight := Nat.two_pow_pos _
  have hm : b % f.signWeight % f.signWeight = b % f.signWeight := Nat.mod_mod _ _
  have hd : (b % f.signWeight / f.signWeight % 2 == 1) = false := by rw [Nat.div_eq_of_lt (Nat.mod_lt _ hp)]; rfl
  unfold Ieee.Format.read
  simp only [hm, hd]
  by_cases h1 : b % f.signWeight < f.binade
  · rw [if_pos h1, if_pos h1]; rfl
  · rw [if_neg h1, if_neg h1]
    by_cases h2 : b % f.signWeight < f.infRung
    · rw [if_pos h2, if_pos h2]; rfl
    · rw [if_neg h2, if_neg h2]
      by_cases h3 : b % f.signWeight = f.infRung
      · rw [if_pos h3, if_pos h3]; rfl
      · rw [if_neg h3, if_neg h3]; rfl

theorem read_max64 : FloatKind.f64.decode 9218868437227405311 = .number false 9007199254740991 971 := rfl

theorem abs_gt_max (b : Nat) : (FloatKind.f64.format.order (b % 9223372036854775808) 9218868437227405311 == some .gt) = (FloatKind.f64.decode b).isInfinity := by
  have h : FloatKind.f64.decode (b % 9223372036854775808) = Dabs (FloatKind.f64.decode b) := read_abs Ieee.double b
  have ho : FloatKind.f64.format.order (b % 9223372036854775808) 9218868437227405311 = (FloatKind.f64.decode (b % 9223372036854775808)).order (FloatKind.f64.decode 9218868437227405311) := rfl
  rw [ho, h, read_max64]
  cases hb : FloatKind.f64.decode b with
  | nan s t => rfl
  | infinity s => rfl
  | number s m e =>
    obtain ⟨h1, h2, h3⟩ := decode64_number hb
    simp only [Dabs, Ieee.Datum.order, Ieee.Datum.isInfinity]
    have e1 : min e 971 = e := by omega
    rw [e1]
    have e2 : (e - e).toNat = 0 := by omega
    rw [e2]
    simp only [Ieee.signed, Bool.false_eq_true, if_false, Nat.shiftLeft_eq, Nat.pow_zero, Nat.mul_one]
    have hp : 1 ≤ 2 ^ (971 - e).toNat := Nat.two_pow_pos _
    have hle : m ≤ 9007199254740991 * 2 ^ (971 - e).toNat := Nat.le_trans (by omega : m ≤ 9007199254740991 * 1) (Nat.mul_le_mul_left _ hp)
    generalize 9007199254740991 * 2 ^ (971 - e).toNat = X at *
    have : compare (m : Int) (X : Int) ≠ .gt := by
      rw [Ne, Int.compare_eq_gt]; omega
    cases hc : compare (m : Int) (X : Int) <;> simp_all

theorem wide_finite (w : World) (b : Nat) : isFin .f64 (convR w .f32 b .f64) = isFin .f32 b := by
  cases h : FloatKind.f32.decode b with
  | nan s t =>
    have h1 : fv .f32 b = none := by unfold fv; rw [h]; rfl
    have h2 := fv_wideR w b
    rw [h1] at h2
    have h3 : (FloatKind.f64.decode (convR w .f32 b .f64)).isNaN = true := by
      unfold fv at h2; split at h2
      · assumption
      · cases h2
    obtain ⟨s', t', h4⟩ := (isNaN_iff _).1 h3
    unfold isFin; rw [h4, h]
  | infinity s =>
    have hw := widen_infinity h
    unfold convR isFin
    rw [hw, h, Option.getD_some]
    cases s <;> rfl
  | number s m e =>
    have hw := widen_number h
    unfold convR isFin
    rw [hw, h, Option.getD_some]
    obtain ⟨h1, h2, h3, _⟩ := decode32_number h
    by_cases h0 : m = 0
    · subst h0; rw [decode_encode64_zero]
    · rw [decode_encode64 h0 h1 h2 h3]

theorem isFin_iff (k : FloatKind) (b : Nat) : isFin k b = (!(k.decode b).isNaN && !(k.decode b).isInfinity) := by
  unfold isFin; cases k.decode b <;> rfl

/-- x == x -/
theorem order_self (k : FloatKind) (b : Nat) : (k.format.order b b == some .eq) = !(k.decode b).isNaN := by
  have ho : k.format.order b b = (k.decode b).order (k.decode b) := rfl
  rw [ho]
  cases k.decode b with
  | nan s t => rfl
  | infinity s => cases s <;> rfl
  | number s m e => simp [Ieee.Datum.order, Ieee.Datum.isNaN]

/-- x - x == 0 -/
theorem sub_self_zero (w : World) (k : FloatKind) (b : Nat) : (k.format.order (flR w .sub k b b) 0 == some .eq) = isFin k b := by
  rw [order_ford, fv_flR, ← floatBits_fop]
  have hz : fv k 0 = some 0 := by cases k <;> rfl
  rw [hz]
  have hf : floatBits .sub k b b = ((k.decode b).sum (k.decode b).opposite).map k.format.write := rfl
  rw [hf]
  unfold isFin
  cases hb : k.decode b with
  | nan s t => rfl
  | infinity s => cases s <;> rfl
  | number s m e =>
    have : (Ieee.Datum.number s m e).sum (Ieee.Datum.number s m e).opposite = some (.number false 0 (min e e)) := by
      simp only [Ieee.Datum.opposite, Ieee.Datum.sum]
      have ht : Ieee.signed s m (e - min e e).toNat + Ieee.signed (!s) m (e - min e e).toNat = 0 := by
        cases s <;> simp [Ieee.signed] <;> omega
      rw [ht]
      simp
    rw [this]
    simp only [Option.map_some, Ieee.Format.write, Ieee.Format.nearest, if_true]
    cases k <;> rfl


theorem mask63 (x : Nat) (h : x < 18446744073709551616) : bits .andNot .u64 (x : Int) 9223372036854775808 = ((x % 9223372036854775808 : Nat) : Int) := by
  have h1 := u64_andNot (x : Int) 9223372036854775808 (by omega) (by omega) (by omega) (by omega)
  rw [h1]
  have h2 := Nat.and_two_pow_sub_one_eq_mod x 63
  have h3 : (18446744073709551615 - (9223372036854775808 : Int).toNat) = 2 ^ 63 - 1 := by rfl
  rw [h3, Int.toNat_natCast, h2]

theorem fv_some {k : FloatKind} {b : Nat} (h : (k.decode b).isNaN = false) : fv k b = some b := by unfold fv; rw [h]; rfl
theorem fv_none {k : FloatKind} {b : Nat} (h : (k.decode b).isNaN = true) : fv k b = none := by unfold fv; rw [h]; rfl
theorem fv_cases (k : FloatKind) (b : Nat) : ((k.decode b).isNaN = true ∧ fv k b = none) ∨ ((k.decode b).isNaN = false ∧ fv k b = some b) := by
  cases h : (k.decode b).isNaN
  · exact .inr ⟨rfl, fv_some h⟩
  · exact .inl ⟨rfl, fv_none h⟩

/-- a comparison after an operation does not depend on what the tape gave -/
theorem order_flR (w : World) (op : BinOp) (k : FloatKind) (x y z : Nat) : k.format.order (flR w op k x y) z = ford k (fop op k (fv k x) (fv k y)) (fv k z) := by
  rw [order_ford, fv_flR]

theorem ret_bool {a b : Bool} (h : a = b) : Ending.returned (.bool a) = Ending.returned (.bool b) := by rw [h]
theorem ret_float {k : FloatKind} {a b : Nat} (h : a = b) : Ending.returned (.float k a) = Ending.returned (.float k b) := by rw [h]
theorem ret_int {k : IntKind} {a b : Int} (h : a = b) : Ending.returned (.int k a) = Ending.returned (.int k b) := by rw [h]
theorem natBeq (a b : Nat) : ((a : Int) == (b : Int)) = (a == b) := by
  rw [Bool.eq_iff_iff]; simp [Int.ofNat_inj]

/-- the bits that FromBits takes -/
def fbV (n : Int) : Nat := if 0 ≤ n ∧ n ≤ 4294967295 then n.toNat else 0
def fbOk (n : Int) : Bool := decide (0 ≤ n ∧ n ≤ 4294967295)
theorem fb_yes {n : Int} (h : 0 ≤ n) (h' : n ≤ 4294967295) : fbV n = n.toNat ∧ fbOk n = true := by
  unfold fbV fbOk; exact ⟨if_pos ⟨h, h'⟩, decide_eq_true ⟨h, h'⟩⟩
theorem fb_no {n : Int} (h : ¬ (0 ≤ n ∧ n ≤ 4294967295)) : fbV n = 0 ∧ fbOk n = false := by
  unfold fbV fbOk; exact ⟨if_neg h, decide_eq_false h⟩
theorem fbV_lt (n : Int) : fbV n < 4294967296 := by
  unfold fbV; split <;> omega

/-- the square root, as a value -/
def fsq : Option Nat → Option Nat
  | some x => Ieee.double.sqrt x
  | none => none
def sqR (w : World) (x : Nat) : Nat := (Ieee.double.sqrt x).getD ((Question.nanBits .f64 x x).cut (w.tape w.drawn (.nanBits .f64 x x)))
def sqD (x : Nat) : Nat := if (Ieee.double.sqrt x).isSome then 0 else 1

theorem root_notNaN {n : Nat} {d r : Ieee.Datum} (h : d.root n = some r) : r.isNaN = false := by
  cases d <;> simp only [Ieee.Datum.root] at h <;> (repeat' split at h) <;> cases h <;> rfl
theorem root_nan {n : Nat} {d : Ieee.Datum} (h : d.isNaN = true) : d.root n = none := by
  obtain ⟨s, t, rfl⟩ := (isNaN_iff _).1 h; rfl

theorem fv_sqR (w : World) (x : Nat) : fv .f64 (sqR w x) = fsq (fv .f64 x) := by
  rcases fv_cases .f64 x with ⟨hn, hf⟩ | ⟨hn, hf⟩
  · have h : Ieee.double.sqrt x = none := by unfold Ieee.Format.sqrt; rw [show Ieee.Datum.root (Ieee.double.fractionBits + 2) (Ieee.double.read x) = none from root_nan hn]; rfl
    rw [hf]
    unfold sqR fsq
    rw [h, Option.getD_none]
    exact fv_none (cut_nanBits .f64 x x _).1
  · rw [hf]
    have e : fsq (some x) = Ieee.double.sqrt x := rfl
    rw [e]
    unfold sqR
    cases h : Ieee.double.sqrt x with
    | none => exact fv_none (cut_nanBits .f64 x x _).1
    | some r =>
      unfold Ieee.Format.sqrt at h
      rw [Option.map_eq_some_iff] at h
      obtain ⟨a, h1, rfl⟩ := h
      exact fv_some (write_notNaN Ieee.double _ (root_notNaN h1))

theorem sqR_lt (w : World) (x : Nat) : sqR w x < 18446744073709551616 := by
  unfold sqR
  cases h : Ieee.double.sqrt x with
  | none => exact (cut_nanBits .f64 x x _).2
  | some r => exact Ieee.Format.sqrt_lt _ h

theorem run_sqrt {P : Program} (w : World) (x : Nat) : (Extern.MathSqrt.sqrt #[.float .f64 x]).run P w = .ok (.float .f64 (sqR w x)) (w.drewN (sqD x)) := by
  have hf : Extern.MathSqrt.sqrt #[.float .f64 x] = (match Ieee.double.sqrt x with
    | some r => pure (.float .f64 r)
    | none => do pure (.float .f64 (← choose (.nanBits .f64 x x)))) := rfl
  rw [hf]
  cases h : Ieee.double.sqrt x with
  | some r => simp [h, sqR, sqD, World.drewN_zero]
  | none => simp [h, sqR, sqD, Question.forced]; rfl

theorem run_store_float {P : Program} (w : World) (a : Addr) (m : Mode) (k : FloatKind) (b : Nat) : (store a (.float k b) m).run P w = stored P w a (.float k b) m := run_store P w a _ m rfl
theorem run_store_complex {P : Program} (w : World) (a : Addr) (m : Mode) (k : FloatKind) (b c : Nat) : (store a (.complex k b c) m).run P w = stored P w a (.complex k b c) m := run_store P w a _ m rfl

theorem wide_some {b : Nat} (h : (FloatKind.f32.decode b).isNaN = false) : ∃ r, floatToFloatBits .f32 b .f64 = some r := by
  cases hd : FloatKind.f32.decode b with
  | nan s t => rw [hd] at h; cases h
  | infinity s => exact ⟨_, widen_infinity hd⟩
  | number s m e => exact ⟨_, widen_number hd⟩

/-- is it one of the four? -/
def isArith : BinOp → Bool
  | .add | .sub | .mul | .quo => true
  | _ => false
theorem isArith_or {op : BinOp} (h : isArith op = true) : op = .add ∨ op = .sub ∨ op = .mul ∨ op = .quo := by
  cases op <;> first | (simp; done) | cases h

/-- AN OPERATION ON FLOATS, ITS RESULT UNDER A NAME OF ITS OWN. -/
theorem wpList_fl {P : Program} {ops : Array Oper} {Q : Exit → Act → World → Prop} {rest : List Oper} {a : Act} {w : World} {d : Option Nat} {op : BinOp} {t t' ty : TypeId} {x y : Operand} {pos : String} {after : Array Edge} {k : FloatKind} {u v : Nat}
    (hop : isArith op = true) (hx : a.eval x = .float k u) (hy : a.eval y = .float k v)
    (h : ∀ r n, Hid (fv k r = fop op k (fv k u) (fv k v)) → wpList P ops Q rest (a.put d (.float k r)) (w.drewN n)) :
    wpList P ops Q ({ dst := d, op := Op.binOp op t x y t', type := ty, pos := pos, after := after, guard := none } :: rest) a w := by
  refine wpList_plain rfl fun K hK => ?_
  have hk := hK _ _ (h (flR w op k u v) (flD op k u v) (Lib.hid (fv_flR w op k u v)))
  have hrun := run_fl_of (P := P) w t k u v op (isArith_or hop)
  have hg : (eqGuard op t x y (.float k u) (.float k v)).run P w = .ok () w := by rcases isArith_or hop with rfl | rfl | rfl | rfl <;> rfl
  have he : (execOp a.eval { dst := d, op := Op.binOp op t x y t', type := ty, pos := pos, after := after, guard := none }).run P w = .ok (.value (.float k (flR w op k u v))) (w.drewN (flD op k u v)) := by
    simp [execOp, hx, hy, hg, hrun, Result.andThen]
  unfold Oper.wp
  rw [he]
  exact hk

/-- .. where the walk stands at the operation -/
theorem upon_fl {P : Program} {o : Oper} {K : Act → World → Prop} {Q' : Exit → Act → World → Prop} {a : Act} {w : World} {op : BinOp} {t : TypeId} {k : FloatKind} {u v : Nat}
    (hop : isArith op = true)
    (h : ∀ r n, Hid (fv k r = fop op k (fv k u) (fv k v)) → Oper.upon P o a K Q' (Result.ok (Next.value (.float k r)) (w.drewN n))) :
    Oper.upon P o a K Q' (((binOp op t (.float k u) (.float k v)).run P w).andThen fun a w' => Result.ok (Next.value a) w') := by
  rw [run_fl_of (P := P) w t k u v op (isArith_or hop)]
  exact h _ _ (Lib.hid (fv_flR w op k u v))

theorem unary_neg_float (k : FloatKind) (b : Nat) : Op.unary .neg (.float k b) = pure (.float k (Op.negFloat k b)) := rfl
/-- x - x, held against 0, with the result under a name -/
theorem sub_self_val {k : FloatKind} {x d : Nat} (h : fv k d = fop .sub k (fv k x) (fv k x)) : (k.format.order d 0 == some .eq) = isFin k x := by
  have := sub_self_zero default k x
  rw [order_ford, fv_flR] at this
  rw [order_ford, h, this]
theorem bne_of_beq {a b : Option Ordering} {c : Bool} (h : (a == b) = c) : (a != b) = !c := by unfold bne; rw [h]

end Go.Proofs.Ytfbapbgiegploaa.Flo
