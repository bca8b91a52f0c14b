/- Angles: what flatAngle and the like answer. -/
import Derived.Test.YtnjkpapjioeffacCir
import Derived.Test.YtnjkpapjioeffacLaw1
namespace Go.Proofs.Ytnjkpapjioeffac
open Go.ChangeShapes Go.WideShapes Go.ChangeAt Go.RowKit Go.Proofs.Ytnjkpapjioeffac.Flo
set_option linter.unusedVariables false
attribute [local go_sem] unary_neg_float run_store_float run_store_complex ext_Float32bits ext_Float64bits ext_Float32frombits ext_Float64frombits ext_sqrt

abbrev cEight : Option Nat := fv .f64 4620693217682128896
/-- one step towards a flatter angle -/
def tV (t : Option Nat) : Option Nat := fop .quo .f64 t (fop .add .f64 cOne (fsq (fop .add .f64 cOne (fop .mul .f64 t t))))
def tVs (t : Option Nat) : Nat → Option Nat
  | 0 => t
  | j + 1 => tV (tVs t j)
def angP (u : Option Nat) : Nat → Option Nat
  | 0 => cZero
  | j + 1 => fop .sub .f64 (fop .quo .f64 cOne (fv .f64 (floatOfInt .f64 (15 - 2 * (j : Int))))) (fop .mul .f64 u (angP u j))
def flatOf (t : Option Nat) : Option Nat := fop .quo .f64 (fop .mul .f64 cEight (fop .mul .f64 t (angP (fop .mul .f64 t t) 8))) cTau
def flatV (t : Option Nat) : Option Nat := flatOf (tVs t 3)
theorem c_Sqrt (x : Nat) (w : World) : Calls Try.prog 70 #[.float .f64 x] w (RetG .f64 (fsq (fv .f64 x)) w) := by
  go_enter Try.func70, Try.ntmps70
  go_wp2
  go_ret
  exact RetG.mk _ (fv_sqR _ _)
set_option maxHeartbeats 4000000 in
theorem c_impl_flatAngle (x : Nat) (w : World) : Calls Try.prog 50 #[.float .f64 x] w (RetG .f64 (flatV (fv .f64 x)) w) := by
  go_enter Try.func50, Try.ntmps50
  go_wp2_with fail
  go_loopw [0, 6] (fun s i wr => ∃ (j n r : Nat), j ≤ 3 ∧ i = .int .i64 (j : Int) ∧ wr = w.drewN n ∧ s = .float .f64 r ∧ fv .f64 r = tVs (fv .f64 x) j) (fun _ i _ => 3 - (intOf i).toNat)
  case atStart => exact ⟨0, 0, x, by omega, rfl, rfl, rfl, rfl⟩
  case round =>
    obtain ⟨j, n, r, hj, rfl, rfl, rfl, hr⟩ := hrel
    have HR := Lib.hid hr
    clear hr
    by_cases h3 : j = 3
    · subst h3
      clear hj
      go_wp2_with fail
      (with_reducible refine upon_fl rfl ?_); intro u nu hu
      go_wp2_with fail
      go_loopw [4, 5] (fun s i wr => ∃ (j n p : Nat), j ≤ 8 ∧ i = .int .i64 (15 - 2 * (j : Int)) ∧ wr = w.drewN n ∧ s = .float .f64 p ∧ fv .f64 p = angP (fv .f64 u) j) (fun _ i _ => (intOf i + 2).toNat)
      case atStart => exact ⟨0, _, _, by omega, rfl, rfl, rfl, rfl⟩
      case round =>
        obtain ⟨j, n, p, hj, rfl, rfl, rfl, hp⟩ := hrel
        have HP := Lib.hid hp
        clear hp
        by_cases h8 : j = 8
        · subst h8
          go_wp2_with fail
          (with_reducible refine upon_fl rfl ?_); intro a na ha
          go_wp2_with fail
          (with_reducible refine upon_fl rfl ?_); intro b nb hb
          go_wp2_with fail
          (with_reducible refine upon_fl rfl ?_); intro c nc hc
          go_wp2
          go_ret
          refine RetG.mk _ ?_
          unfold flatV flatOf
          rw [← HR.out, ← hu.out, ← HP.out, hc.out, hb.out, ha.out]
        · have hc : j = 0 ∨ j = 1 ∨ j = 2 ∨ j = 3 ∨ j = 4 ∨ j = 5 ∨ j = 6 ∨ j = 7 := by omega
          clear h8 hj
          rcases hc with rfl | rfl | rfl | rfl | rfl | rfl | rfl | rfl
          all_goals
            go_wp2_with fail
            (with_reducible refine upon_fl rfl ?_); intro a na ha
            go_wp2_with fail
            (with_reducible refine upon_fl rfl ?_); intro b nb hb
            go_wp2_with fail
            (with_reducible refine upon_fl rfl ?_); intro c nc hc
            go_wp2
            go_roundw
            case rel => first | (refine ⟨1, _, c, by omega, rfl, rfl, rfl, ?_⟩; rw [hc.out, hb.out, ha.out, HP.out]; rfl) | (refine ⟨2, _, c, by omega, rfl, rfl, rfl, ?_⟩; rw [hc.out, hb.out, ha.out, HP.out]; rfl) | (refine ⟨3, _, c, by omega, rfl, rfl, rfl, ?_⟩; rw [hc.out, hb.out, ha.out, HP.out]; rfl) | (refine ⟨4, _, c, by omega, rfl, rfl, rfl, ?_⟩; rw [hc.out, hb.out, ha.out, HP.out]; rfl) | (refine ⟨5, _, c, by omega, rfl, rfl, rfl, ?_⟩; rw [hc.out, hb.out, ha.out, HP.out]; rfl) | (refine ⟨6, _, c, by omega, rfl, rfl, rfl, ?_⟩; rw [hc.out, hb.out, ha.out, HP.out]; rfl) | (refine ⟨7, _, c, by omega, rfl, rfl, rfl, ?_⟩; rw [hc.out, hb.out, ha.out, HP.out]; rfl) | (refine ⟨8, _, c, by omega, rfl, rfl, rfl, ?_⟩; rw [hc.out, hb.out, ha.out, HP.out]; rfl)
            case measure => simp [intOf]
    · have hc : j = 0 ∨ j = 1 ∨ j = 2 := by omega
      clear h3 hj
      rcases hc with rfl | rfl | rfl
      all_goals
        go_wp2_with fail
        (with_reducible refine upon_fl rfl ?_); intro a na ha
        go_wp2_with fail
        (with_reducible refine upon_fl rfl ?_); intro b nb hb
        go_wp2_with fail
        refine (c_Sqrt _ _).mono ?_; rintro e w' ⟨q, m, rfl, rfl, hq⟩
        have HQ := Lib.hid hq
        clear hq
        go_wp2_with fail
        (with_reducible refine upon_fl rfl ?_); intro c nc hc
        go_wp2_with fail
        (with_reducible refine upon_fl rfl ?_); intro d nd hd
        go_wp2
        go_roundw
        case rel => first | (refine ⟨1, _, d, by omega, rfl, rfl, rfl, ?_⟩; rw [hd.out, hc.out, HQ.out, hb.out, ha.out, HR.out]; rfl) | (refine ⟨2, _, d, by omega, rfl, rfl, rfl, ?_⟩; rw [hd.out, hc.out, HQ.out, hb.out, ha.out, HR.out]; rfl) | (refine ⟨3, _, d, by omega, rfl, rfl, rfl, ?_⟩; rw [hd.out, hc.out, HQ.out, hb.out, ha.out, HR.out]; rfl)
        case measure => simp [intOf]
end Go.Proofs.Ytnjkpapjioeffac
