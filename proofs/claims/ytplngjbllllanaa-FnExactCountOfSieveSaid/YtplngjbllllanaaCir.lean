/- Circles: what the functions answer. -/
import Derived.Test.YtplngjbllllanaaCon
import Derived.Test.YtplngjbllllanaaFsb
namespace Go.Proofs.Ytplngjbllllanaa
open Go.ChangeShapes Go.WideShapes Go.ChangeAt Go.RowKit Go.Proofs.Ytplngjbllllanaa.Flo
set_option linter.unusedVariables false
attribute [local go_sem] unary_neg_float run_conv run_store_float run_store_complex ext_Float64bits ext_Float64frombits

/-- a float of this value is returned; some draws -/
def RetG (k : FloatKind) (v : Option Nat) (w : World) (e : Ending) (w' : World) : Prop := ∃ r n, e = .returned (.float k r) ∧ w' = w.drewN n ∧ fv k r = v
theorem RetG.mk {k : FloatKind} {v : Option Nat} {w : World} {r : Nat} (n : Nat) (h : fv k r = v) : RetG k v w (.returned (.float k r)) (w.drewN n) := ⟨r, n, rfl, rfl, h⟩
theorem RetG.mk0 {k : FloatKind} {v : Option Nat} {w : World} {r : Nat} (h : fv k r = v) : RetG k v w (.returned (.float k r)) w := ⟨r, 0, rfl, rfl, h⟩

abbrev cHalf : Option Nat := fv .f64 4602678819172646912
abbrev cQuarter : Option Nat := fv .f64 4598175219545276416
abbrev cOne : Option Nat := fv .f64 4607182418800017408
abbrev cZero : Option Nat := fv .f64 0
abbrev cTau : Option Nat := fv .f64 4618760256179416344
def fneg : Option Nat → Option Nat := Option.map (Op.negFloat .f64)
/-- the share of a turn -/
def shareV (x : Option Nat) (n : Int) : Option Nat :=
  if ford .f64 (fop .sub .f64 x (fv .f64 (floatOfInt .f64 n))) cZero == some .lt then fop .add .f64 (fop .sub .f64 x (fv .f64 (floatOfInt .f64 n))) cOne else fop .sub .f64 x (fv .f64 (floatOfInt .f64 n))
/-- the series, j steps of it -/
def sinP (u : Option Nat) : Nat → Option Nat
  | 0 => cOne
  | j + 1 => fop .sub .f64 cOne (fop .quo .f64 (fop .mul .f64 u (sinP u j)) (fv .f64 (floatOfInt .f64 (2 * (8 - (j : Int)) * (2 * (8 - (j : Int)) + 1)))))
def sinCore (f : Option Nat) : Option Nat := fop .mul .f64 (fop .mul .f64 f cTau) (sinP (fop .mul .f64 (fop .mul .f64 f cTau) (fop .mul .f64 f cTau)) 8)
def halfB (f : Option Nat) : Bool := ford .f64 f cHalf == some .gt || ford .f64 f cHalf == some .eq
def foldV (f : Option Nat) : Option Nat := if ford .f64 f cQuarter == some .gt then fop .sub .f64 cHalf f else f
def sinF (f : Option Nat) : Option Nat := if halfB f then fneg (sinCore (foldV (fop .sub .f64 f cHalf))) else sinCore (foldV f)

theorem neg_mod (b : Nat) : Op.negFloat .f64 b % 9223372036854775808 = b % 9223372036854775808 := by
  have e : Op.negFloat .f64 b = b ^^^ 2 ^ 63 := rfl
  have e2 : 9223372036854775808 = 2 ^ 63 := rfl
  rw [e, e2]
  apply Nat.eq_of_testBit_eq
  intro j
  rw [Nat.testBit_mod_two_pow, Nat.testBit_mod_two_pow, Nat.testBit_xor, Nat.testBit_two_pow]
  by_cases h : j < 63
  · have : ¬ 63 = j := by omega
    simp [h, this]
  · simp [h]
theorem isNaN_mod (b c : Nat) (h : b % 9223372036854775808 = c % 9223372036854775808) : (FloatKind.f64.decode b).isNaN = (FloatKind.f64.decode c).isNaN := by
  have hb : FloatKind.f64.decode (b % 9223372036854775808) = Dabs (FloatKind.f64.decode b) := read_abs Ieee.double b
  have hc : FloatKind.f64.decode (c % 9223372036854775808) = Dabs (FloatKind.f64.decode c) := read_abs Ieee.double c
  have key : ∀ d : Ieee.Datum, (Dabs d).isNaN = d.isNaN := fun d => by cases d <;> rfl
  rw [← key (FloatKind.f64.decode b), ← hb, h, hc, key]
theorem fv_neg (b : Nat) : fv .f64 (Op.negFloat .f64 b) = fneg (fv .f64 b) := by
  have h := isNaN_mod _ _ (neg_mod b)
  unfold fneg fv
  rw [h]
  cases (FloatKind.f64.decode b).isNaN <;> rfl
end Go.Proofs.Ytplngjbllllanaa
