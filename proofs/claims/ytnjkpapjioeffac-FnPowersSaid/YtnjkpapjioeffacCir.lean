/- Circles: what the functions answer. -/
import Derived.Test.YtnjkpapjioeffacCon
import Derived.Test.YtnjkpapjioeffacFsb
namespace Go.Proofs.Ytnjkpapjioeffac
open Go.ChangeShapes Go.WideShapes Go.ChangeAt Go.RowKit Go.Proofs.Ytnjkpapjioeffac.Flo
set_option linter.unusedVariables false
attribute [local go_sem] unary_neg_float run_conv run_store_float run_store_complex ext_Float32bits ext_Float64bits ext_Float32frombits ext_Float64frombits ext_sqrt

/-- a float of this value is returned; some draws -/
def RetG (k : FloatKind) (v : Option Nat) (w : World) (e : Ending) (w' : World) : Prop := ∃ r n, e = .returned (.float k r) ∧ w' = w.drewN n ∧ fv k r = v
theorem RetG.mk {k : FloatKind} {v : Option Nat} {w : World} {r : Nat} (n : Nat) (h : fv k r = v) : RetG k v w (.returned (.float k r)) (w.drewN n) := ⟨r, n, rfl, rfl, h⟩
theorem RetG.mk0 {k : FloatKind} {v : Option Nat} {w : World} {r : Nat} (h : fv k r = v) : RetG k v w (.returned (.float k r)) w := ⟨r, 0, rfl, rfl, h⟩

abbrev cHalf : Option Nat := fv .f64 4602678819172646912
abbrev cQuarter : Option Nat := fv .f64 4598175219545276416
abbrev cOne : Option Nat := fv .f64 4607182418800017408
abbrev cZero : Option Nat := fv .f64 0
abbrev cTau : Option Nat := fv .f64 4618760256179416344
def fneg : Option Nat → Option Nat := Option.map (Op.negFloat .f64)
/-- the share of a turn -/
def shareV (x : Option Nat) (n : Int) : Option Nat :=
  if ford .f64 (fop .sub .f64 x (fv .f64 (floatOfInt .f64 n))) cZero == some .lt then fop .add .f64 (fop .sub .f64 x (fv .f64 (floatOfInt .f64 n))) cOne else fop .sub .f64 x (fv .f64 (floatOfInt .f64 n))
/-- the series, j steps of it -/
def sinP (u : Option Nat) : Nat → Option Nat
  | 0 => cOne
  | j + 1 => fop .sub .f64 cOne (fop .quo .f64 (fop .mul .f64 u (sinP u j)) (fv .f64 (floatOfInt .f64 (2 * (8 - (j : Int)) * (2 * (8 - (j : Int)) + 1)))))
def sinCore (f : Option Nat) : Option Nat := fop .mul .f64 (fop .mul .f64 f cTau) (sinP (fop .mul .f64 (fop .mul .f64 f cTau) (fop .mul .f64 f cTau)) 8)
def halfB (f : Option Nat) : Bool := ford .f64 f cHalf == some .gt || ford .f64 f cHalf == some .eq
def foldV (f : Option Nat) : Option Nat := if ford .f64 f cQuarter == some .gt then fop .sub .f64 cHalf f else f
def sinF (f : Option Nat) : Option Nat := if halfB f then fneg (sinCore (foldV (fop .sub .f64 f cHalf))) else sinCore (foldV f)

theorem neg_mod (b : Nat) : Op.negFloat .f64 b % 9223372036854775808 = b % 9223372036854775808 := by
  have e : Op.negFloat .f64 b = b ^^^ 2 ^ 63 := rfl
  have e2 : 9223372036854775808 = 2 ^ 63 := rfl
  rw [e, e2]
  apply Nat.eq_of_testBit_eq
  intro j
  rw [Nat.testBit_mod_two_pow, Nat.testBit_mod_two_pow, Nat.testBit_xor, Nat.testBit_two_pow]
  by_cases h : j < 63
  · have : ¬ 63 = j := by omega
    simp [h, this]
  · simp [h]
theorem isNaN_mod (b c : Nat) (h : b % 9223372036854775808 = c % 9223372036854775808) : (FloatKind.f64.decode b).isNaN = (FloatKind.f64.decode c).isNaN := by
  have hb : FloatKind.f64.decode (b % 9223372036854775808) = Dabs (FloatKind.f64.decode b) := read_abs Ieee.double b
  have hc : FloatKind.f64.decode (c % 9223372036854775808) = Dabs (FloatKind.f64.decode c) := read_abs Ieee.double c
  have key : ∀ d : Ieee.Datum, (Dabs d).isNaN = d.isNaN := fun d => by cases d <;> rfl
  rw [← key (FloatKind.f64.decode b), ← hb, h, hc, key]
theorem fv_neg (b : Nat) : fv .f64 (Op.negFloat .f64 b) = fneg (fv .f64 b) := by
  have h := isNaN_mod _ _ (neg_mod b)
  unfold fneg fv
  rw [h]
  cases (FloatKind.f64.decode b).isNaN <;> rfl
theorem c_impl_shareOfTurn (x : Nat) (n : Int) (w : World) (h : floatToIntVal .f64 x .i64 = some n) : Calls Try.prog 40 #[.float .f64 x] w (RetG .f64 (shareV (fv .f64 x) n) w) := by
  have hcv : ∀ wx : World, (convert 22 2 (.float .f64 x)).run Try.prog wx = .ok (.int .i64 n) wx := fun wx => run_convert_float_int wx _ _ _ _ _ _ (by kernel_rfl) (by kernel_rfl) h
  clear h
  go_enter Try.func40, Try.ntmps40
  go_wp2_with fail
  (with_reducible refine upon_fl rfl ?_); intro r0 nr0 hr0
  by_cases ht : (FloatKind.f64.format.order r0 0 == some .lt) = true
  · go_wp2_with fail
    (with_reducible refine upon_fl rfl ?_); intro r1 nr1 hr1
    go_wp2
    go_ret
    refine RetG.mk _ ?_
    rw [order_ford, hr0.out] at ht
    unfold shareV
    rw [if_pos ht, hr1.out, hr0.out]
  · have hf : (FloatKind.f64.format.order r0 0 == some .lt) = false := by simpa using ht
    clear ht
    go_wp2
    go_ret
    refine RetG.mk _ ?_
    rw [order_ford, hr0.out] at hf
    unfold shareV
    rw [if_neg (by intro h; exact absurd (h.symm.trans hf) (by decide))]
    exact hr0.out
theorem sinF_t {f : Option Nat} (h : halfB f = true) : sinF f = fneg (sinCore (foldV (fop .sub .f64 f cHalf))) := if_pos h
theorem sinF_f {f : Option Nat} (h : halfB f = false) : sinF f = sinCore (foldV f) := by unfold sinF; rw [h]; rfl
theorem foldV_t {f : Option Nat} (h : (ford .f64 f cQuarter == some .gt) = true) : foldV f = fop .sub .f64 cHalf f := if_pos h
theorem foldV_f {f : Option Nat} (h : (ford .f64 f cQuarter == some .gt) = false) : foldV f = f := by unfold foldV; rw [h]; rfl
theorem halfB_of {r : Nat} (h : (FloatKind.f64.format.order r 4602678819172646912 == some .gt || FloatKind.f64.format.order r 4602678819172646912 == some .eq) = true) : halfB (fv .f64 r) = true := by
  rw [order_ford] at h; exact h
theorem halfB_not {r : Nat} (h : (FloatKind.f64.format.order r 4602678819172646912 == some .gt || FloatKind.f64.format.order r 4602678819172646912 == some .eq) = false) : halfB (fv .f64 r) = false := by
  rw [order_ford] at h; exact h
theorem quart_of {r : Nat} (h : (FloatKind.f64.format.order r 4598175219545276416 == some .gt) = true) : (ford .f64 (fv .f64 r) cQuarter == some .gt) = true := by
  rw [order_ford] at h; exact h
theorem quart_not {r : Nat} (h : (FloatKind.f64.format.order r 4598175219545276416 == some .gt) = false) : (ford .f64 (fv .f64 r) cQuarter == some .gt) = false := by
  rw [order_ford] at h; exact h
set_option maxHeartbeats 8000000 in
theorem c_impl_wideSine (x : Nat) (n : Int) (w : World) (h : floatToIntVal .f64 x .i64 = some n) : Calls Try.prog 41 #[.float .f64 x] w (RetG .f64 (sinF (shareV (fv .f64 x) n)) w) := by
  go_enter Try.func41, Try.ntmps41
  go_wp2_with fail
  refine (c_impl_shareOfTurn x n _ h).mono ?_; rintro e w' ⟨r, m, rfl, rfl, hr⟩
  have HR := Lib.hid hr
  clear hr h
  by_cases hg : (FloatKind.f64.format.order r 4602678819172646912 == some .gt || FloatKind.f64.format.order r 4602678819172646912 == some .eq) = true
  · have HB := Lib.hid (halfB_of hg)
    go_wp2_with fail
    (with_reducible refine upon_fl rfl ?_); intro r1 nr1 hr1
    by_cases hq : (FloatKind.f64.format.order r1 4598175219545276416 == some .gt) = true
    · have HQ := Lib.hid (quart_of hq)
      go_wp2_with fail
      (with_reducible refine upon_fl rfl ?_); intro r2 nr2 hr2
      clear hg hq
      go_wp2_with fail
      (with_reducible refine upon_fl rfl ?_); intro z nz hz
      go_wp2_with fail
      (with_reducible refine upon_fl rfl ?_); intro u nu hu
      go_wp2_with fail
      go_loopw [7, 8] (fun s i wr => ∃ (j n p : Nat), j ≤ 8 ∧ i = .int .i64 (8 - (j : Int)) ∧ wr = w.drewN n ∧ s = .float .f64 p ∧ fv .f64 p = sinP (fv .f64 u) j) (fun _ i _ => (intOf i).toNat)
      case atStart => exact ⟨0, _, _, by omega, rfl, rfl, rfl, rfl⟩
      case round =>
        obtain ⟨j, n, p, hj, rfl, rfl, rfl, hp⟩ := hrel
        have HP := Lib.hid hp
        clear hp
        by_cases h8 : j = 8
        · subst h8
          go_wp2_with fail
          (with_reducible refine upon_fl rfl ?_); intro zp nzp hzp
          go_wp2
          go_ret
          refine RetG.mk _ ?_
          rw [← HR.out, sinF_t HB.out, ← hr1.out, foldV_t HQ.out, ← hr2.out, fv_neg, hzp.out]
          unfold sinCore
          rw [← hz.out, ← hu.out, ← HP.out]
        · have hc : j = 0 ∨ j = 1 ∨ j = 2 ∨ j = 3 ∨ j = 4 ∨ j = 5 ∨ j = 6 ∨ j = 7 := by omega
          clear h8 hj
          rcases hc with rfl | rfl | rfl | rfl | rfl | rfl | rfl | rfl
          all_goals
            go_wp2_with fail
            (with_reducible refine upon_fl rfl ?_); intro a na ha
            go_wp2_with fail
            (with_reducible refine upon_fl rfl ?_); intro b nb hb
            go_wp2_with fail
            (with_reducible refine upon_fl rfl ?_); intro c nc hc
            go_wp2
            go_roundw
            case rel => first | (refine ⟨1, _, c, by omega, rfl, rfl, rfl, ?_⟩; rw [hc.out, hb.out, ha.out, HP.out]; rfl) | (refine ⟨2, _, c, by omega, rfl, rfl, rfl, ?_⟩; rw [hc.out, hb.out, ha.out, HP.out]; rfl) | (refine ⟨3, _, c, by omega, rfl, rfl, rfl, ?_⟩; rw [hc.out, hb.out, ha.out, HP.out]; rfl) | (refine ⟨4, _, c, by omega, rfl, rfl, rfl, ?_⟩; rw [hc.out, hb.out, ha.out, HP.out]; rfl) | (refine ⟨5, _, c, by omega, rfl, rfl, rfl, ?_⟩; rw [hc.out, hb.out, ha.out, HP.out]; rfl) | (refine ⟨6, _, c, by omega, rfl, rfl, rfl, ?_⟩; rw [hc.out, hb.out, ha.out, HP.out]; rfl) | (refine ⟨7, _, c, by omega, rfl, rfl, rfl, ?_⟩; rw [hc.out, hb.out, ha.out, HP.out]; rfl) | (refine ⟨8, _, c, by omega, rfl, rfl, rfl, ?_⟩; rw [hc.out, hb.out, ha.out, HP.out]; rfl)
            case measure => simp [intOf]
    · have hq' : (FloatKind.f64.format.order r1 4598175219545276416 == some .gt) = false := by simpa using hq
      have HQ := Lib.hid (quart_not hq')
      clear hq
      go_wp2_with fail
      clear hg hq'
      (with_reducible refine upon_fl rfl ?_); intro z nz hz
      go_wp2_with fail
      (with_reducible refine upon_fl rfl ?_); intro u nu hu
      go_wp2_with fail
      go_loopw [7, 8] (fun s i wr => ∃ (j n p : Nat), j ≤ 8 ∧ i = .int .i64 (8 - (j : Int)) ∧ wr = w.drewN n ∧ s = .float .f64 p ∧ fv .f64 p = sinP (fv .f64 u) j) (fun _ i _ => (intOf i).toNat)
      case atStart => exact ⟨0, _, _, by omega, rfl, rfl, rfl, rfl⟩
      case round =>
        obtain ⟨j, n, p, hj, rfl, rfl, rfl, hp⟩ := hrel
        have HP := Lib.hid hp
        clear hp
        by_cases h8 : j = 8
        · subst h8
          go_wp2_with fail
          (with_reducible refine upon_fl rfl ?_); intro zp nzp hzp
          go_wp2
          go_ret
          refine RetG.mk _ ?_
          rw [← HR.out, sinF_t HB.out, ← hr1.out, foldV_f HQ.out, fv_neg, hzp.out]
          unfold sinCore
          rw [← hz.out, ← hu.out, ← HP.out]
        · have hc : j = 0 ∨ j = 1 ∨ j = 2 ∨ j = 3 ∨ j = 4 ∨ j = 5 ∨ j = 6 ∨ j = 7 := by omega
          clear h8 hj
          rcases hc with rfl | rfl | rfl | rfl | rfl | rfl | rfl | rfl
          all_goals
            go_wp2_with fail
            (with_reducible refine upon_fl rfl ?_); intro a na ha
            go_wp2_with fail
            (with_reducible refine upon_fl rfl ?_); intro b nb hb
            go_wp2_with fail
            (with_reducible refine upon_fl rfl ?_); intro c nc hc
            go_wp2
            go_roundw
            case rel => first | (refine ⟨1, _, c, by omega, rfl, rfl, rfl, ?_⟩; rw [hc.out, hb.out, ha.out, HP.out]; rfl) | (refine ⟨2, _, c, by omega, rfl, rfl, rfl, ?_⟩; rw [hc.out, hb.out, ha.out, HP.out]; rfl) | (refine ⟨3, _, c, by omega, rfl, rfl, rfl, ?_⟩; rw [hc.out, hb.out, ha.out, HP.out]; rfl) | (refine ⟨4, _, c, by omega, rfl, rfl, rfl, ?_⟩; rw [hc.out, hb.out, ha.out, HP.out]; rfl) | (refine ⟨5, _, c, by omega, rfl, rfl, rfl, ?_⟩; rw [hc.out, hb.out, ha.out, HP.out]; rfl) | (refine ⟨6, _, c, by omega, rfl, rfl, rfl, ?_⟩; rw [hc.out, hb.out, ha.out, HP.out]; rfl) | (refine ⟨7, _, c, by omega, rfl, rfl, rfl, ?_⟩; rw [hc.out, hb.out, ha.out, HP.out]; rfl) | (refine ⟨8, _, c, by omega, rfl, rfl, rfl, ?_⟩; rw [hc.out, hb.out, ha.out, HP.out]; rfl)
            case measure => simp [intOf]
  · have hg' : (FloatKind.f64.format.order r 4602678819172646912 == some .gt || FloatKind.f64.format.order r 4602678819172646912 == some .eq) = false := by simpa using hg
    have HB := Lib.hid (halfB_not hg')
    clear hg
    by_cases hq : (FloatKind.f64.format.order r 4598175219545276416 == some .gt) = true
    · have HQ := Lib.hid (quart_of hq)
      go_wp2_with fail
      (with_reducible refine upon_fl rfl ?_); intro r2 nr2 hr2
      clear hg' hq
      go_wp2_with fail
      (with_reducible refine upon_fl rfl ?_); intro z nz hz
      go_wp2_with fail
      (with_reducible refine upon_fl rfl ?_); intro u nu hu
      go_wp2_with fail
      go_loopw [7, 8] (fun s i wr => ∃ (j n p : Nat), j ≤ 8 ∧ i = .int .i64 (8 - (j : Int)) ∧ wr = w.drewN n ∧ s = .float .f64 p ∧ fv .f64 p = sinP (fv .f64 u) j) (fun _ i _ => (intOf i).toNat)
      case atStart => exact ⟨0, _, _, by omega, rfl, rfl, rfl, rfl⟩
      case round =>
        obtain ⟨j, n, p, hj, rfl, rfl, rfl, hp⟩ := hrel
        have HP := Lib.hid hp
        clear hp
        by_cases h8 : j = 8
        · subst h8
          go_wp2_with fail
          (with_reducible refine upon_fl rfl ?_); intro zp nzp hzp
          go_wp2
          go_ret
          refine RetG.mk _ ?_
          rw [← HR.out, sinF_f HB.out, foldV_t HQ.out, ← hr2.out, hzp.out]
          unfold sinCore
          rw [← hz.out, ← hu.out, ← HP.out]
        · have hc : j = 0 ∨ j = 1 ∨ j = 2 ∨ j = 3 ∨ j = 4 ∨ j = 5 ∨ j = 6 ∨ j = 7 := by omega
          clear h8 hj
          rcases hc with rfl | rfl | rfl | rfl | rfl | rfl | rfl | rfl
          all_goals
            go_wp2_with fail
            (with_reducible refine upon_fl rfl ?_); intro a na ha
            go_wp2_with fail
            (with_reducible refine upon_fl rfl ?_); intro b nb hb
            go_wp2_with fail
            (with_reducible refine upon_fl rfl ?_); intro c nc hc
            go_wp2
            go_roundw
            case rel => first | (refine ⟨1, _, c, by omega, rfl, rfl, rfl, ?_⟩; rw [hc.out, hb.out, ha.out, HP.out]; rfl) | (refine ⟨2, _, c, by omega, rfl, rfl, rfl, ?_⟩; rw [hc.out, hb.out, ha.out, HP.out]; rfl) | (refine ⟨3, _, c, by omega, rfl, rfl, rfl, ?_⟩; rw [hc.out, hb.out, ha.out, HP.out]; rfl) | (refine ⟨4, _, c, by omega, rfl, rfl, rfl, ?_⟩; rw [hc.out, hb.out, ha.out, HP.out]; rfl) | (refine ⟨5, _, c, by omega, rfl, rfl, rfl, ?_⟩; rw [hc.out, hb.out, ha.out, HP.out]; rfl) | (refine ⟨6, _, c, by omega, rfl, rfl, rfl, ?_⟩; rw [hc.out, hb.out, ha.out, HP.out]; rfl) | (refine ⟨7, _, c, by omega, rfl, rfl, rfl, ?_⟩; rw [hc.out, hb.out, ha.out, HP.out]; rfl) | (refine ⟨8, _, c, by omega, rfl, rfl, rfl, ?_⟩; rw [hc.out, hb.out, ha.out, HP.out]; rfl)
            case measure => simp [intOf]
    · have hq' : (FloatKind.f64.format.order r 4598175219545276416 == some .gt) = false := by simpa using hq
      have HQ := Lib.hid (quart_not hq')
      clear hq
      go_wp2_with fail
      clear hg' hq'
      (with_reducible refine upon_fl rfl ?_); intro z nz hz
      go_wp2_with fail
      (with_reducible refine upon_fl rfl ?_); intro u nu hu
      go_wp2_with fail
      go_loopw [7, 8] (fun s i wr => ∃ (j n p : Nat), j ≤ 8 ∧ i = .int .i64 (8 - (j : Int)) ∧ wr = w.drewN n ∧ s = .float .f64 p ∧ fv .f64 p = sinP (fv .f64 u) j) (fun _ i _ => (intOf i).toNat)
      case atStart => exact ⟨0, _, _, by omega, rfl, rfl, rfl, rfl⟩
      case round =>
        obtain ⟨j, n, p, hj, rfl, rfl, rfl, hp⟩ := hrel
        have HP := Lib.hid hp
        clear hp
        by_cases h8 : j = 8
        · subst h8
          go_wp2_with fail
          (with_reducible refine upon_fl rfl ?_); intro zp nzp hzp
          go_wp2
          go_ret
          refine RetG.mk _ ?_
          rw [← HR.out, sinF_f HB.out, foldV_f HQ.out, hzp.out]
          unfold sinCore
          rw [← hz.out, ← hu.out, ← HP.out]
        · have hc : j = 0 ∨ j = 1 ∨ j = 2 ∨ j = 3 ∨ j = 4 ∨ j = 5 ∨ j = 6 ∨ j = 7 := by omega
          clear h8 hj
          rcases hc with rfl | rfl | rfl | rfl | rfl | rfl | rfl | rfl
          all_goals
            go_wp2_with fail
            (with_reducible refine upon_fl rfl ?_); intro a na ha
            go_wp2_with fail
            (with_reducible refine upon_fl rfl ?_); intro b nb hb
            go_wp2_with fail
            (with_reducible refine upon_fl rfl ?_); intro c nc hc
            go_wp2
            go_roundw
            case rel => first | (refine ⟨1, _, c, by omega, rfl, rfl, rfl, ?_⟩; rw [hc.out, hb.out, ha.out, HP.out]; rfl) | (refine ⟨2, _, c, by omega, rfl, rfl, rfl, ?_⟩; rw [hc.out, hb.out, ha.out, HP.out]; rfl) | (refine ⟨3, _, c, by omega, rfl, rfl, rfl, ?_⟩; rw [hc.out, hb.out, ha.out, HP.out]; rfl) | (refine ⟨4, _, c, by omega, rfl, rfl, rfl, ?_⟩; rw [hc.out, hb.out, ha.out, HP.out]; rfl) | (refine ⟨5, _, c, by omega, rfl, rfl, rfl, ?_⟩; rw [hc.out, hb.out, ha.out, HP.out]; rfl) | (refine ⟨6, _, c, by omega, rfl, rfl, rfl, ?_⟩; rw [hc.out, hb.out, ha.out, HP.out]; rfl) | (refine ⟨7, _, c, by omega, rfl, rfl, rfl, ?_⟩; rw [hc.out, hb.out, ha.out, HP.out]; rfl) | (refine ⟨8, _, c, by omega, rfl, rfl, rfl, ?_⟩; rw [hc.out, hb.out, ha.out, HP.out]; rfl)
            case measure => simp [intOf]
end Go.Proofs.Ytnjkpapjioeffac
