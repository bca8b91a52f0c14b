/- AngleTurns: what both functions answer; the law's walk. -/
import Derived.Test.YtnjkpapjioeffacFan
import Derived.Test.YtnjkpapjioeffacSin
namespace Go.Proofs.Ytnjkpapjioeffac
open Go.ChangeShapes Go.WideShapes Go.ChangeAt Go.RowKit Go.Proofs.Ytnjkpapjioeffac.Flo
set_option linter.unusedVariables false
attribute [local go_sem] unary_neg_float run_store_float run_store_complex ext_Float32bits ext_Float64bits ext_Float32frombits ext_Float64frombits ext_sqrt

def angT (ov : Bool) (a b : Option Nat) : Option Nat := if ov then fop .quo .f64 b a else fop .quo .f64 a b
def ang1 (ov : Bool) (t : Option Nat) : Option Nat := if ov then fop .sub .f64 cQuarter (flatV t) else flatV t
def ang2 (xn : Bool) (v : Option Nat) : Option Nat := if xn then fop .sub .f64 cHalf v else v
def ang3 (yn : Bool) (v : Option Nat) : Option Nat := if yn then fneg v else v
def angV (ov xn yn : Bool) (a b : Option Nat) : Option Nat := ang3 yn (ang2 xn (ang1 ov (angT ov a b)))

theorem bd_quarter : Bd .f64 cQuarter 0 := Bd.const (k := .f64) (b := 4598175219545276416) (s := false) (m := 4503599627370496) (e := -54) (by kernel_rfl) (.inr ⟨by omega, by decide +kernel⟩)
theorem bd_ang {ov xn yn : Bool} {a b : Option Nat} (h : Bd .f64 (angT ov a b) 0) : Bd .f64 (angV ov xn yn a b) 20 := by
  have h1 : Bd .f64 (ang1 ov (angT ov a b)) 10 := by
    unfold ang1
    split
    · exact Bd.sub (c := 9) (Bd.mono bd_quarter (by omega)) (bd_flat h) (by omega) (by omega)
    · exact Bd.mono (bd_flat h) (by omega)
  have h2 : Bd .f64 (ang2 xn (ang1 ov (angT ov a b))) 11 := by
    unfold ang2
    split
    · exact Bd.sub (c := 10) (Bd.mono bd_half (by omega)) h1 (by omega) (by omega)
    · exact Bd.mono h1 (by omega)
  unfold angV ang3
  split
  · exact Bd.neg (Bd.mono h2 (by omega))
  · exact Bd.mono h2 (by omega)
set_option maxHeartbeats 8000000 in
theorem c_spec_l01AngleWide (Y X : Nat) (w : World) (ov xn yn : Bool) (hY : Y < 18446744073709551616) (hX : X < 18446744073709551616) (fy : isFin .f64 Y = true) (fx : isFin .f64 X = true)
    (zx zy : Bool) (ex : (FloatKind.f64.format.order X 0 == some .eq) = zx) (ey : (FloatKind.f64.format.order Y 0 == some .eq) = zy) (hz : (zx && zy) = false)
    (ho : (FloatKind.f64.format.order (Y % 9223372036854775808) (X % 9223372036854775808) == some .gt) = ov) (hx : (FloatKind.f64.format.order X 0 == some .lt) = xn) (hy : (FloatKind.f64.format.order Y 0 == some .lt) = yn) :
    Calls Try.prog 69 #[.float .f64 Y, .float .f64 X] w (RetG .f64 (angV ov xn yn (fv .f64 (Y % 9223372036854775808)) (fv .f64 (X % 9223372036854775808))) w) := by
  have FY := Lib.hid fy
  have FX := Lib.hid fx
  have EY := Lib.hid ey
  have HXN := Lib.hid hx
  have HYN := Lib.hid hy
  have HO := Lib.hid ho
  clear fy fx ey hx hy ho
  go_enter Try.func69, Try.ntmps69
  go_wp2_with fail
  (with_reducible refine upon_fl rfl ?_); intro d nd hd
  have hdz : (FloatKind.f64.format.order d 0 != some .eq) = false := by rw [bne_of_beq (sub_self_val hd.out), FY.out]; rfl
  clear hd
  go_wp2_with fail
  (with_reducible refine upon_fl rfl ?_); intro d' nd' hd'
  have hdz' : (FloatKind.f64.format.order d' 0 != some .eq) = false := by rw [bne_of_beq (sub_self_val hd'.out), FX.out]; rfl
  clear hd'
  cases ov
  case true =>
    cases zx
    case true =>
      cases zy
      case true => cases hz
      case false =>
        have hey := EY.out
        have hov := HO.out
        go_wp2_with (first | (go_at_call 39; first | (refine (c_Abs _ _ hY).mono ?_; rintro e w' ⟨rfl, rfl⟩) | (refine (c_Abs _ _ hX).mono ?_; rintro e w' ⟨rfl, rfl⟩)))
        (with_reducible refine upon_fl rfl ?_); intro t0 nt0 ht0
        clear hov hdz hdz'
        go_wp2_with fail
        go_loopw [8, 9] (fun s i wr => ∃ (j n r : Nat), j ≤ 3 ∧ i = .int .i64 (j : Int) ∧ wr = w.drewN n ∧ s = .float .f64 r ∧ fv .f64 r = tVs (fv .f64 t0) j) (fun _ i _ => 3 - (intOf i).toNat)
        case atStart => exact ⟨0, _, t0, by omega, rfl, rfl, rfl, rfl⟩
        case round =>
          obtain ⟨j, n, r, hj, rfl, rfl, rfl, hr⟩ := hrel
          have HR := Lib.hid hr
          clear hr
          by_cases h3 : j = 3
          · subst h3
            clear hj
            go_wp2_with fail
            (with_reducible refine upon_fl rfl ?_); intro u nu hu
            go_wp2_with fail
            go_loopw [11, 12] (fun s i wr => ∃ (j n p : Nat), j ≤ 8 ∧ i = .int .i64 (15 - 2 * (j : Int)) ∧ wr = w.drewN n ∧ s = .float .f64 p ∧ fv .f64 p = angP (fv .f64 u) j) (fun _ i _ => (intOf i + 2).toNat)
            case atStart => exact ⟨0, _, _, by omega, rfl, rfl, rfl, rfl⟩
            case round =>
              obtain ⟨j, n, p, hj, rfl, rfl, rfl, hp⟩ := hrel
              have HP := Lib.hid hp
              clear hp
              by_cases h8 : j = 8
              · subst h8
                go_wp2_with fail
                (with_reducible refine upon_fl rfl ?_); intro a na ha
                go_wp2_with fail
                (with_reducible refine upon_fl rfl ?_); intro b nb hb
                go_wp2_with fail
                (with_reducible refine upon_fl rfl ?_); intro c nc hc
                have HA := Lib.hid (show fv .f64 c = flatV (fv .f64 t0) from by unfold flatV flatOf; rw [← HR.out, ← hu.out, ← HP.out, hc.out, hb.out, ha.out])
                clear ha hb hc
                go_wp2_with fail
                (with_reducible refine upon_fl rfl ?_); intro g ng hg
                have H1 := Lib.hid (show fv .f64 g = ang1 true (angT true (fv .f64 (Y % 9223372036854775808)) (fv .f64 (X % 9223372036854775808))) from by rw [hg.out, HA.out, ht0.out]; rfl)
                cases xn
                case true =>
                  have hxn := HXN.out
                  go_wp2_with fail
                  (with_reducible refine upon_fl rfl ?_); intro x2 nx2 hx2
                  have H2 := Lib.hid (show fv .f64 x2 = ang2 true (ang1 true (angT true (fv .f64 (Y % 9223372036854775808)) (fv .f64 (X % 9223372036854775808)))) from by rw [hx2.out, H1.out]; rfl)
                  cases yn
                  case true =>
                    have hyn := HYN.out
                    go_wp2_with fail
                    go_ret
                    exact RetG.mk _ (by rw [fv_neg, H2.out]; rfl)
                  case false =>
                    have hyn := HYN.out
                    go_wp2_with fail
                    go_ret
                    exact RetG.mk _ (by rw [H2.out]; rfl)
                case false =>
                  have hxn := HXN.out
                  have H2 := Lib.hid (show fv .f64 g = ang2 false (ang1 true (angT true (fv .f64 (Y % 9223372036854775808)) (fv .f64 (X % 9223372036854775808)))) from by rw [H1.out]; rfl)
                  cases yn
                  case true =>
                    have hyn := HYN.out
                    go_wp2_with fail
                    go_ret
                    exact RetG.mk _ (by rw [fv_neg, H2.out]; rfl)
                  case false =>
                    have hyn := HYN.out
                    go_wp2_with fail
                    go_ret
                    exact RetG.mk _ (by rw [H2.out]; rfl)
              · have hc : j = 0 ∨ j = 1 ∨ j = 2 ∨ j = 3 ∨ j = 4 ∨ j = 5 ∨ j = 6 ∨ j = 7 := by omega
                clear h8 hj
                rcases hc with rfl | rfl | rfl | rfl | rfl | rfl | rfl | rfl
                all_goals
                  go_wp2_with fail
                  (with_reducible refine upon_fl rfl ?_); intro a na ha
                  go_wp2_with fail
                  (with_reducible refine upon_fl rfl ?_); intro b nb hb
                  go_wp2_with fail
                  (with_reducible refine upon_fl rfl ?_); intro c nc hc
                  go_wp2
                  go_roundw
                  case rel => first | (refine ⟨1, _, c, by omega, rfl, rfl, rfl, ?_⟩; rw [hc.out, hb.out, ha.out, HP.out]; rfl) | (refine ⟨2, _, c, by omega, rfl, rfl, rfl, ?_⟩; rw [hc.out, hb.out, ha.out, HP.out]; rfl) | (refine ⟨3, _, c, by omega, rfl, rfl, rfl, ?_⟩; rw [hc.out, hb.out, ha.out, HP.out]; rfl) | (refine ⟨4, _, c, by omega, rfl, rfl, rfl, ?_⟩; rw [hc.out, hb.out, ha.out, HP.out]; rfl) | (refine ⟨5, _, c, by omega, rfl, rfl, rfl, ?_⟩; rw [hc.out, hb.out, ha.out, HP.out]; rfl) | (refine ⟨6, _, c, by omega, rfl, rfl, rfl, ?_⟩; rw [hc.out, hb.out, ha.out, HP.out]; rfl) | (refine ⟨7, _, c, by omega, rfl, rfl, rfl, ?_⟩; rw [hc.out, hb.out, ha.out, HP.out]; rfl) | (refine ⟨8, _, c, by omega, rfl, rfl, rfl, ?_⟩; rw [hc.out, hb.out, ha.out, HP.out]; rfl)
                  case measure => simp [intOf]
          · have hc : j = 0 ∨ j = 1 ∨ j = 2 := by omega
            clear h3 hj
            rcases hc with rfl | rfl | rfl
            all_goals
              go_wp2_with fail
              (with_reducible refine upon_fl rfl ?_); intro a na ha
              go_wp2_with fail
              (with_reducible refine upon_fl rfl ?_); intro b nb hb
              go_wp2_with fail
              refine (c_Sqrt _ _).mono ?_; rintro e w' ⟨q, m, rfl, rfl, hq⟩
              have HQ := Lib.hid hq
              clear hq
              go_wp2_with fail
              (with_reducible refine upon_fl rfl ?_); intro c nc hc
              go_wp2_with fail
              (with_reducible refine upon_fl rfl ?_); intro d nd hd
              go_wp2
              go_roundw
              case rel => first | (refine ⟨1, _, d, by omega, rfl, rfl, rfl, ?_⟩; rw [hd.out, hc.out, HQ.out, hb.out, ha.out, HR.out]; rfl) | (refine ⟨2, _, d, by omega, rfl, rfl, rfl, ?_⟩; rw [hd.out, hc.out, HQ.out, hb.out, ha.out, HR.out]; rfl) | (refine ⟨3, _, d, by omega, rfl, rfl, rfl, ?_⟩; rw [hd.out, hc.out, HQ.out, hb.out, ha.out, HR.out]; rfl)
              case measure => simp [intOf]
    case false =>
      have hov := HO.out
      go_wp2_with (first | (go_at_call 39; first | (refine (c_Abs _ _ hY).mono ?_; rintro e w' ⟨rfl, rfl⟩) | (refine (c_Abs _ _ hX).mono ?_; rintro e w' ⟨rfl, rfl⟩)))
      (with_reducible refine upon_fl rfl ?_); intro t0 nt0 ht0
      clear hov hdz hdz'
      go_wp2_with fail
      go_loopw [8, 9] (fun s i wr => ∃ (j n r : Nat), j ≤ 3 ∧ i = .int .i64 (j : Int) ∧ wr = w.drewN n ∧ s = .float .f64 r ∧ fv .f64 r = tVs (fv .f64 t0) j) (fun _ i _ => 3 - (intOf i).toNat)
      case atStart => exact ⟨0, _, t0, by omega, rfl, rfl, rfl, rfl⟩
      case round =>
        obtain ⟨j, n, r, hj, rfl, rfl, rfl, hr⟩ := hrel
        have HR := Lib.hid hr
        clear hr
        by_cases h3 : j = 3
        · subst h3
          clear hj
          go_wp2_with fail
          (with_reducible refine upon_fl rfl ?_); intro u nu hu
          go_wp2_with fail
          go_loopw [11, 12] (fun s i wr => ∃ (j n p : Nat), j ≤ 8 ∧ i = .int .i64 (15 - 2 * (j : Int)) ∧ wr = w.drewN n ∧ s = .float .f64 p ∧ fv .f64 p = angP (fv .f64 u) j) (fun _ i _ => (intOf i + 2).toNat)
          case atStart => exact ⟨0, _, _, by omega, rfl, rfl, rfl, rfl⟩
          case round =>
            obtain ⟨j, n, p, hj, rfl, rfl, rfl, hp⟩ := hrel
            have HP := Lib.hid hp
            clear hp
            by_cases h8 : j = 8
            · subst h8
              go_wp2_with fail
              (with_reducible refine upon_fl rfl ?_); intro a na ha
              go_wp2_with fail
              (with_reducible refine upon_fl rfl ?_); intro b nb hb
              go_wp2_with fail
              (with_reducible refine upon_fl rfl ?_); intro c nc hc
              have HA := Lib.hid (show fv .f64 c = flatV (fv .f64 t0) from by unfold flatV flatOf; rw [← HR.out, ← hu.out, ← HP.out, hc.out, hb.out, ha.out])
              clear ha hb hc
              go_wp2_with fail
              (with_reducible refine upon_fl rfl ?_); intro g ng hg
              have H1 := Lib.hid (show fv .f64 g = ang1 true (angT true (fv .f64 (Y % 9223372036854775808)) (fv .f64 (X % 9223372036854775808))) from by rw [hg.out, HA.out, ht0.out]; rfl)
              cases xn
              case true =>
                have hxn := HXN.out
                go_wp2_with fail
                (with_reducible refine upon_fl rfl ?_); intro x2 nx2 hx2
                have H2 := Lib.hid (show fv .f64 x2 = ang2 true (ang1 true (angT true (fv .f64 (Y % 9223372036854775808)) (fv .f64 (X % 9223372036854775808)))) from by rw [hx2.out, H1.out]; rfl)
                cases yn
                case true =>
                  have hyn := HYN.out
                  go_wp2_with fail
                  go_ret
                  exact RetG.mk _ (by rw [fv_neg, H2.out]; rfl)
                case false =>
                  have hyn := HYN.out
                  go_wp2_with fail
                  go_ret
                  exact RetG.mk _ (by rw [H2.out]; rfl)
              case false =>
                have hxn := HXN.out
                have H2 := Lib.hid (show fv .f64 g = ang2 false (ang1 true (angT true (fv .f64 (Y % 9223372036854775808)) (fv .f64 (X % 9223372036854775808)))) from by rw [H1.out]; rfl)
                cases yn
                case true =>
                  have hyn := HYN.out
                  go_wp2_with fail
                  go_ret
                  exact RetG.mk _ (by rw [fv_neg, H2.out]; rfl)
                case false =>
                  have hyn := HYN.out
                  go_wp2_with fail
                  go_ret
                  exact RetG.mk _ (by rw [H2.out]; rfl)
            · have hc : j = 0 ∨ j = 1 ∨ j = 2 ∨ j = 3 ∨ j = 4 ∨ j = 5 ∨ j = 6 ∨ j = 7 := by omega
              clear h8 hj
              rcases hc with rfl | rfl | rfl | rfl | rfl | rfl | rfl | rfl
              all_goals
                go_wp2_with fail
                (with_reducible refine upon_fl rfl ?_); intro a na ha
                go_wp2_with fail
                (with_reducible refine upon_fl rfl ?_); intro b nb hb
                go_wp2_with fail
                (with_reducible refine upon_fl rfl ?_); intro c nc hc
                go_wp2
                go_roundw
                case rel => first | (refine ⟨1, _, c, by omega, rfl, rfl, rfl, ?_⟩; rw [hc.out, hb.out, ha.out, HP.out]; rfl) | (refine ⟨2, _, c, by omega, rfl, rfl, rfl, ?_⟩; rw [hc.out, hb.out, ha.out, HP.out]; rfl) | (refine ⟨3, _, c, by omega, rfl, rfl, rfl, ?_⟩; rw [hc.out, hb.out, ha.out, HP.out]; rfl) | (refine ⟨4, _, c, by omega, rfl, rfl, rfl, ?_⟩; rw [hc.out, hb.out, ha.out, HP.out]; rfl) | (refine ⟨5, _, c, by omega, rfl, rfl, rfl, ?_⟩; rw [hc.out, hb.out, ha.out, HP.out]; rfl) | (refine ⟨6, _, c, by omega, rfl, rfl, rfl, ?_⟩; rw [hc.out, hb.out, ha.out, HP.out]; rfl) | (refine ⟨7, _, c, by omega, rfl, rfl, rfl, ?_⟩; rw [hc.out, hb.out, ha.out, HP.out]; rfl) | (refine ⟨8, _, c, by omega, rfl, rfl, rfl, ?_⟩; rw [hc.out, hb.out, ha.out, HP.out]; rfl)
                case measure => simp [intOf]
        · have hc : j = 0 ∨ j = 1 ∨ j = 2 := by omega
          clear h3 hj
          rcases hc with rfl | rfl | rfl
          all_goals
            go_wp2_with fail
            (with_reducible refine upon_fl rfl ?_); intro a na ha
            go_wp2_with fail
            (with_reducible refine upon_fl rfl ?_); intro b nb hb
            go_wp2_with fail
            refine (c_Sqrt _ _).mono ?_; rintro e w' ⟨q, m, rfl, rfl, hq⟩
            have HQ := Lib.hid hq
            clear hq
            go_wp2_with fail
            (with_reducible refine upon_fl rfl ?_); intro c nc hc
            go_wp2_with fail
            (with_reducible refine upon_fl rfl ?_); intro d nd hd
            go_wp2
            go_roundw
            case rel => first | (refine ⟨1, _, d, by omega, rfl, rfl, rfl, ?_⟩; rw [hd.out, hc.out, HQ.out, hb.out, ha.out, HR.out]; rfl) | (refine ⟨2, _, d, by omega, rfl, rfl, rfl, ?_⟩; rw [hd.out, hc.out, HQ.out, hb.out, ha.out, HR.out]; rfl) | (refine ⟨3, _, d, by omega, rfl, rfl, rfl, ?_⟩; rw [hd.out, hc.out, HQ.out, hb.out, ha.out, HR.out]; rfl)
            case measure => simp [intOf]
  case false =>
    cases zx
    case true =>
      cases zy
      case true => cases hz
      case false =>
        have hey := EY.out
        have hov := HO.out
        go_wp2_with (first | (go_at_call 39; first | (refine (c_Abs _ _ hY).mono ?_; rintro e w' ⟨rfl, rfl⟩) | (refine (c_Abs _ _ hX).mono ?_; rintro e w' ⟨rfl, rfl⟩)))
        (with_reducible refine upon_fl rfl ?_); intro t0 nt0 ht0
        clear hov hdz hdz'
        go_wp2_with fail
        go_loopw [8, 9] (fun s i wr => ∃ (j n r : Nat), j ≤ 3 ∧ i = .int .i64 (j : Int) ∧ wr = w.drewN n ∧ s = .float .f64 r ∧ fv .f64 r = tVs (fv .f64 t0) j) (fun _ i _ => 3 - (intOf i).toNat)
        case atStart => exact ⟨0, _, t0, by omega, rfl, rfl, rfl, rfl⟩
        case round =>
          obtain ⟨j, n, r, hj, rfl, rfl, rfl, hr⟩ := hrel
          have HR := Lib.hid hr
          clear hr
          by_cases h3 : j = 3
          · subst h3
            clear hj
            go_wp2_with fail
            (with_reducible refine upon_fl rfl ?_); intro u nu hu
            go_wp2_with fail
            go_loopw [11, 12] (fun s i wr => ∃ (j n p : Nat), j ≤ 8 ∧ i = .int .i64 (15 - 2 * (j : Int)) ∧ wr = w.drewN n ∧ s = .float .f64 p ∧ fv .f64 p = angP (fv .f64 u) j) (fun _ i _ => (intOf i + 2).toNat)
            case atStart => exact ⟨0, _, _, by omega, rfl, rfl, rfl, rfl⟩
            case round =>
              obtain ⟨j, n, p, hj, rfl, rfl, rfl, hp⟩ := hrel
              have HP := Lib.hid hp
              clear hp
              by_cases h8 : j = 8
              · subst h8
                go_wp2_with fail
                (with_reducible refine upon_fl rfl ?_); intro a na ha
                go_wp2_with fail
                (with_reducible refine upon_fl rfl ?_); intro b nb hb
                go_wp2_with fail
                (with_reducible refine upon_fl rfl ?_); intro c nc hc
                have HA := Lib.hid (show fv .f64 c = flatV (fv .f64 t0) from by unfold flatV flatOf; rw [← HR.out, ← hu.out, ← HP.out, hc.out, hb.out, ha.out])
                clear ha hb hc
                have H1 := Lib.hid (show fv .f64 c = ang1 false (angT false (fv .f64 (Y % 9223372036854775808)) (fv .f64 (X % 9223372036854775808))) from by rw [HA.out, ht0.out]; rfl)
                cases xn
                case true =>
                  have hxn := HXN.out
                  go_wp2_with fail
                  (with_reducible refine upon_fl rfl ?_); intro x2 nx2 hx2
                  have H2 := Lib.hid (show fv .f64 x2 = ang2 true (ang1 false (angT false (fv .f64 (Y % 9223372036854775808)) (fv .f64 (X % 9223372036854775808)))) from by rw [hx2.out, H1.out]; rfl)
                  cases yn
                  case true =>
                    have hyn := HYN.out
                    go_wp2_with fail
                    go_ret
                    exact RetG.mk _ (by rw [fv_neg, H2.out]; rfl)
                  case false =>
                    have hyn := HYN.out
                    go_wp2_with fail
                    go_ret
                    exact RetG.mk _ (by rw [H2.out]; rfl)
                case false =>
                  have hxn := HXN.out
                  have H2 := Lib.hid (show fv .f64 c = ang2 false (ang1 false (angT false (fv .f64 (Y % 9223372036854775808)) (fv .f64 (X % 9223372036854775808)))) from by rw [H1.out]; rfl)
                  cases yn
                  case true =>
                    have hyn := HYN.out
                    go_wp2_with fail
                    go_ret
                    exact RetG.mk _ (by rw [fv_neg, H2.out]; rfl)
                  case false =>
                    have hyn := HYN.out
                    go_wp2_with fail
                    go_ret
                    exact RetG.mk _ (by rw [H2.out]; rfl)
              · have hc : j = 0 ∨ j = 1 ∨ j = 2 ∨ j = 3 ∨ j = 4 ∨ j = 5 ∨ j = 6 ∨ j = 7 := by omega
                clear h8 hj
                rcases hc with rfl | rfl | rfl | rfl | rfl | rfl | rfl | rfl
                all_goals
                  go_wp2_with fail
                  (with_reducible refine upon_fl rfl ?_); intro a na ha
                  go_wp2_with fail
                  (with_reducible refine upon_fl rfl ?_); intro b nb hb
                  go_wp2_with fail
                  (with_reducible refine upon_fl rfl ?_); intro c nc hc
                  go_wp2
                  go_roundw
                  case rel => first | (refine ⟨1, _, c, by omega, rfl, rfl, rfl, ?_⟩; rw [hc.out, hb.out, ha.out, HP.out]; rfl) | (refine ⟨2, _, c, by omega, rfl, rfl, rfl, ?_⟩; rw [hc.out, hb.out, ha.out, HP.out]; rfl) | (refine ⟨3, _, c, by omega, rfl, rfl, rfl, ?_⟩; rw [hc.out, hb.out, ha.out, HP.out]; rfl) | (refine ⟨4, _, c, by omega, rfl, rfl, rfl, ?_⟩; rw [hc.out, hb.out, ha.out, HP.out]; rfl) | (refine ⟨5, _, c, by omega, rfl, rfl, rfl, ?_⟩; rw [hc.out, hb.out, ha.out, HP.out]; rfl) | (refine ⟨6, _, c, by omega, rfl, rfl, rfl, ?_⟩; rw [hc.out, hb.out, ha.out, HP.out]; rfl) | (refine ⟨7, _, c, by omega, rfl, rfl, rfl, ?_⟩; rw [hc.out, hb.out, ha.out, HP.out]; rfl) | (refine ⟨8, _, c, by omega, rfl, rfl, rfl, ?_⟩; rw [hc.out, hb.out, ha.out, HP.out]; rfl)
                  case measure => simp [intOf]
          · have hc : j = 0 ∨ j = 1 ∨ j = 2 := by omega
            clear h3 hj
            rcases hc with rfl | rfl | rfl
            all_goals
              go_wp2_with fail
              (with_reducible refine upon_fl rfl ?_); intro a na ha
              go_wp2_with fail
              (with_reducible refine upon_fl rfl ?_); intro b nb hb
              go_wp2_with fail
              refine (c_Sqrt _ _).mono ?_; rintro e w' ⟨q, m, rfl, rfl, hq⟩
              have HQ := Lib.hid hq
              clear hq
              go_wp2_with fail
              (with_reducible refine upon_fl rfl ?_); intro c nc hc
              go_wp2_with fail
              (with_reducible refine upon_fl rfl ?_); intro d nd hd
              go_wp2
              go_roundw
              case rel => first | (refine ⟨1, _, d, by omega, rfl, rfl, rfl, ?_⟩; rw [hd.out, hc.out, HQ.out, hb.out, ha.out, HR.out]; rfl) | (refine ⟨2, _, d, by omega, rfl, rfl, rfl, ?_⟩; rw [hd.out, hc.out, HQ.out, hb.out, ha.out, HR.out]; rfl) | (refine ⟨3, _, d, by omega, rfl, rfl, rfl, ?_⟩; rw [hd.out, hc.out, HQ.out, hb.out, ha.out, HR.out]; rfl)
              case measure => simp [intOf]
    case false =>
      have hov := HO.out
      go_wp2_with (first | (go_at_call 39; first | (refine (c_Abs _ _ hY).mono ?_; rintro e w' ⟨rfl, rfl⟩) | (refine (c_Abs _ _ hX).mono ?_; rintro e w' ⟨rfl, rfl⟩)))
      (with_reducible refine upon_fl rfl ?_); intro t0 nt0 ht0
      clear hov hdz hdz'
      go_wp2_with fail
      go_loopw [8, 9] (fun s i wr => ∃ (j n r : Nat), j ≤ 3 ∧ i = .int .i64 (j : Int) ∧ wr = w.drewN n ∧ s = .float .f64 r ∧ fv .f64 r = tVs (fv .f64 t0) j) (fun _ i _ => 3 - (intOf i).toNat)
      case atStart => exact ⟨0, _, t0, by omega, rfl, rfl, rfl, rfl⟩
      case round =>
        obtain ⟨j, n, r, hj, rfl, rfl, rfl, hr⟩ := hrel
        have HR := Lib.hid hr
        clear hr
        by_cases h3 : j = 3
        · subst h3
          clear hj
          go_wp2_with fail
          (with_reducible refine upon_fl rfl ?_); intro u nu hu
          go_wp2_with fail
          go_loopw [11, 12] (fun s i wr => ∃ (j n p : Nat), j ≤ 8 ∧ i = .int .i64 (15 - 2 * (j : Int)) ∧ wr = w.drewN n ∧ s = .float .f64 p ∧ fv .f64 p = angP (fv .f64 u) j) (fun _ i _ => (intOf i + 2).toNat)
          case atStart => exact ⟨0, _, _, by omega, rfl, rfl, rfl, rfl⟩
          case round =>
            obtain ⟨j, n, p, hj, rfl, rfl, rfl, hp⟩ := hrel
            have HP := Lib.hid hp
            clear hp
            by_cases h8 : j = 8
            · subst h8
              go_wp2_with fail
              (with_reducible refine upon_fl rfl ?_); intro a na ha
              go_wp2_with fail
              (with_reducible refine upon_fl rfl ?_); intro b nb hb
              go_wp2_with fail
              (with_reducible refine upon_fl rfl ?_); intro c nc hc
              have HA := Lib.hid (show fv .f64 c = flatV (fv .f64 t0) from by unfold flatV flatOf; rw [← HR.out, ← hu.out, ← HP.out, hc.out, hb.out, ha.out])
              clear ha hb hc
              have H1 := Lib.hid (show fv .f64 c = ang1 false (angT false (fv .f64 (Y % 9223372036854775808)) (fv .f64 (X % 9223372036854775808))) from by rw [HA.out, ht0.out]; rfl)
              cases xn
              case true =>
                have hxn := HXN.out
                go_wp2_with fail
                (with_reducible refine upon_fl rfl ?_); intro x2 nx2 hx2
                have H2 := Lib.hid (show fv .f64 x2 = ang2 true (ang1 false (angT false (fv .f64 (Y % 9223372036854775808)) (fv .f64 (X % 9223372036854775808)))) from by rw [hx2.out, H1.out]; rfl)
                cases yn
                case true =>
                  have hyn := HYN.out
                  go_wp2_with fail
                  go_ret
                  exact RetG.mk _ (by rw [fv_neg, H2.out]; rfl)
                case false =>
                  have hyn := HYN.out
                  go_wp2_with fail
                  go_ret
                  exact RetG.mk _ (by rw [H2.out]; rfl)
              case false =>
                have hxn := HXN.out
                have H2 := Lib.hid (show fv .f64 c = ang2 false (ang1 false (angT false (fv .f64 (Y % 9223372036854775808)) (fv .f64 (X % 9223372036854775808)))) from by rw [H1.out]; rfl)
                cases yn
                case true =>
                  have hyn := HYN.out
                  go_wp2_with fail
                  go_ret
                  exact RetG.mk _ (by rw [fv_neg, H2.out]; rfl)
                case false =>
                  have hyn := HYN.out
                  go_wp2_with fail
                  go_ret
                  exact RetG.mk _ (by rw [H2.out]; rfl)
            · have hc : j = 0 ∨ j = 1 ∨ j = 2 ∨ j = 3 ∨ j = 4 ∨ j = 5 ∨ j = 6 ∨ j = 7 := by omega
              clear h8 hj
              rcases hc with rfl | rfl | rfl | rfl | rfl | rfl | rfl | rfl
              all_goals
                go_wp2_with fail
                (with_reducible refine upon_fl rfl ?_); intro a na ha
                go_wp2_with fail
                (with_reducible refine upon_fl rfl ?_); intro b nb hb
                go_wp2_with fail
                (with_reducible refine upon_fl rfl ?_); intro c nc hc
                go_wp2
                go_roundw
                case rel => first | (refine ⟨1, _, c, by omega, rfl, rfl, rfl, ?_⟩; rw [hc.out, hb.out, ha.out, HP.out]; rfl) | (refine ⟨2, _, c, by omega, rfl, rfl, rfl, ?_⟩; rw [hc.out, hb.out, ha.out, HP.out]; rfl) | (refine ⟨3, _, c, by omega, rfl, rfl, rfl, ?_⟩; rw [hc.out, hb.out, ha.out, HP.out]; rfl) | (refine ⟨4, _, c, by omega, rfl, rfl, rfl, ?_⟩; rw [hc.out, hb.out, ha.out, HP.out]; rfl) | (refine ⟨5, _, c, by omega, rfl, rfl, rfl, ?_⟩; rw [hc.out, hb.out, ha.out, HP.out]; rfl) | (refine ⟨6, _, c, by omega, rfl, rfl, rfl, ?_⟩; rw [hc.out, hb.out, ha.out, HP.out]; rfl) | (refine ⟨7, _, c, by omega, rfl, rfl, rfl, ?_⟩; rw [hc.out, hb.out, ha.out, HP.out]; rfl) | (refine ⟨8, _, c, by omega, rfl, rfl, rfl, ?_⟩; rw [hc.out, hb.out, ha.out, HP.out]; rfl)
                case measure => simp [intOf]
        · have hc : j = 0 ∨ j = 1 ∨ j = 2 := by omega
          clear h3 hj
          rcases hc with rfl | rfl | rfl
          all_goals
            go_wp2_with fail
            (with_reducible refine upon_fl rfl ?_); intro a na ha
            go_wp2_with fail
            (with_reducible refine upon_fl rfl ?_); intro b nb hb
            go_wp2_with fail
            refine (c_Sqrt _ _).mono ?_; rintro e w' ⟨q, m, rfl, rfl, hq⟩
            have HQ := Lib.hid hq
            clear hq
            go_wp2_with fail
            (with_reducible refine upon_fl rfl ?_); intro c nc hc
            go_wp2_with fail
            (with_reducible refine upon_fl rfl ?_); intro d nd hd
            go_wp2
            go_roundw
            case rel => first | (refine ⟨1, _, d, by omega, rfl, rfl, rfl, ?_⟩; rw [hd.out, hc.out, HQ.out, hb.out, ha.out, HR.out]; rfl) | (refine ⟨2, _, d, by omega, rfl, rfl, rfl, ?_⟩; rw [hd.out, hc.out, HQ.out, hb.out, ha.out, HR.out]; rfl) | (refine ⟨3, _, d, by omega, rfl, rfl, rfl, ?_⟩; rw [hd.out, hc.out, HQ.out, hb.out, ha.out, HR.out]; rfl)
            case measure => simp [intOf]
end Go.Proofs.Ytnjkpapjioeffac
