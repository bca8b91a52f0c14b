/- The sine as the other side computes it. -/
import Derived.Test.YtnjkpapjioeffacCir
namespace Go.Proofs.Ytnjkpapjioeffac
open Go.ChangeShapes Go.WideShapes Go.ChangeAt Go.RowKit Go.Proofs.Ytnjkpapjioeffac.Flo
set_option linter.unusedVariables false
attribute [local go_sem] unary_neg_float run_conv run_store_float run_store_complex ext_Float32bits ext_Float64bits ext_Float32frombits ext_Float64frombits ext_sqrt
theorem shareV_t {x : Option Nat} {n : Int} (h : (ford .f64 (fop .sub .f64 x (fv .f64 (floatOfInt .f64 n))) cZero == some .lt) = true) : shareV x n = fop .add .f64 (fop .sub .f64 x (fv .f64 (floatOfInt .f64 n))) cOne := if_pos h
theorem shareV_f {x : Option Nat} {n : Int} (h : (ford .f64 (fop .sub .f64 x (fv .f64 (floatOfInt .f64 n))) cZero == some .lt) = false) : shareV x n = fop .sub .f64 x (fv .f64 (floatOfInt .f64 n)) := by unfold shareV; rw [h]; rfl
/-- is it nearer to 0 than 2 ^ 52? as the model asks it -/
def Near (x : Nat) : Prop := isFin .f64 x = true ∧ (FloatKind.f64.format.order x 4841369599423283200 == some .gt || FloatKind.f64.format.order x 4841369599423283200 == some .eq) = false ∧ (FloatKind.f64.format.order x 14064741636278059008 == some .lt || FloatKind.f64.format.order x 14064741636278059008 == some .eq) = false
set_option maxHeartbeats 8000000 in
theorem c_spec_l01SineWide (x : Nat) (n : Int) (w : World) (hnr : Near x) (h : floatToIntVal .f64 x .i64 = some n) : Calls Try.prog 60 #[.float .f64 x] w (RetG .f64 (sinF (shareV (fv .f64 x) n)) w) := by
  have hcv : ∀ wx : World, (convert 22 2 (.float .f64 x)).run Try.prog wx = .ok (.int .i64 n) wx := fun wx => run_convert_float_int wx _ _ _ _ _ _ (by kernel_rfl) (by kernel_rfl) h
  obtain ⟨g1, g2, g3⟩ := hnr
  have G1 := Lib.hid g1
  clear h g1
  go_enter Try.func60, Try.ntmps60
  go_wp2_with fail
  (with_reducible refine upon_fl rfl ?_); intro d nd hd
  have hdz : (FloatKind.f64.format.order d 0 != some .eq) = false := by rw [bne_of_beq (sub_self_val hd.out), G1.out]; rfl
  clear hd
  go_wp2_with fail
  (with_reducible refine upon_fl rfl ?_); intro r0 nr0 hr0
  clear hdz g2 g3
  by_cases ht : (FloatKind.f64.format.order r0 0 == some .lt) = true
  · go_wp2_with fail
    (with_reducible refine upon_fl rfl ?_); intro r nr hr
    have ht' := ht
    rw [order_ford, hr0.out] at ht'
    have HR := Lib.hid (hr.out.trans (by rw [hr0.out, shareV_t ht'] : fop .add .f64 (fv .f64 r0) cOne = shareV (fv .f64 x) n))
    clear ht ht' hcv
    by_cases hg : (FloatKind.f64.format.order r 4602678819172646912 == some .gt || FloatKind.f64.format.order r 4602678819172646912 == some .eq) = true
    · have HB := Lib.hid (halfB_of hg)
      go_wp2_with fail
      (with_reducible refine upon_fl rfl ?_); intro r1 nr1 hr1
      by_cases hq : (FloatKind.f64.format.order r1 4598175219545276416 == some .gt) = true
      · have HQ := Lib.hid (quart_of hq)
        go_wp2_with fail
        (with_reducible refine upon_fl rfl ?_); intro r2 nr2 hr2
        clear hg hq
        go_wp2_with fail
        (with_reducible refine upon_fl rfl ?_); intro z nz hz
        go_wp2_with fail
        (with_reducible refine upon_fl rfl ?_); intro u nu hu
        go_wp2_with fail
        go_loopw [7, 8] (fun s i wr => ∃ (j n p : Nat), j ≤ 8 ∧ i = .int .i64 (8 - (j : Int)) ∧ wr = w.drewN n ∧ s = .float .f64 p ∧ fv .f64 p = sinP (fv .f64 u) j) (fun _ i _ => (intOf i).toNat)
        case atStart => exact ⟨0, _, _, by omega, rfl, rfl, rfl, rfl⟩
        case round =>
          obtain ⟨j, n, p, hj, rfl, rfl, rfl, hp⟩ := hrel
          have HP := Lib.hid hp
          clear hp
          by_cases h8 : j = 8
          · subst h8
            go_wp2_with fail
            (with_reducible refine upon_fl rfl ?_); intro zp nzp hzp
            go_wp2
            go_ret
            refine RetG.mk _ ?_
            rw [← HR.out, sinF_t HB.out, ← hr1.out, foldV_t HQ.out, ← hr2.out, fv_neg, hzp.out]
            unfold sinCore
            rw [← hz.out, ← hu.out, ← HP.out]
          · have hc : j = 0 ∨ j = 1 ∨ j = 2 ∨ j = 3 ∨ j = 4 ∨ j = 5 ∨ j = 6 ∨ j = 7 := by omega
            clear h8 hj
            rcases hc with rfl | rfl | rfl | rfl | rfl | rfl | rfl | rfl
            all_goals
              go_wp2_with fail
              (with_reducible refine upon_fl rfl ?_); intro a na ha
              go_wp2_with fail
              (with_reducible refine upon_fl rfl ?_); intro b nb hb
              go_wp2_with fail
              (with_reducible refine upon_fl rfl ?_); intro c nc hc
              go_wp2
              go_roundw
              case rel => first | (refine ⟨1, _, c, by omega, rfl, rfl, rfl, ?_⟩; rw [hc.out, hb.out, ha.out, HP.out]; rfl) | (refine ⟨2, _, c, by omega, rfl, rfl, rfl, ?_⟩; rw [hc.out, hb.out, ha.out, HP.out]; rfl) | (refine ⟨3, _, c, by omega, rfl, rfl, rfl, ?_⟩; rw [hc.out, hb.out, ha.out, HP.out]; rfl) | (refine ⟨4, _, c, by omega, rfl, rfl, rfl, ?_⟩; rw [hc.out, hb.out, ha.out, HP.out]; rfl) | (refine ⟨5, _, c, by omega, rfl, rfl, rfl, ?_⟩; rw [hc.out, hb.out, ha.out, HP.out]; rfl) | (refine ⟨6, _, c, by omega, rfl, rfl, rfl, ?_⟩; rw [hc.out, hb.out, ha.out, HP.out]; rfl) | (refine ⟨7, _, c, by omega, rfl, rfl, rfl, ?_⟩; rw [hc.out, hb.out, ha.out, HP.out]; rfl) | (refine ⟨8, _, c, by omega, rfl, rfl, rfl, ?_⟩; rw [hc.out, hb.out, ha.out, HP.out]; rfl)
              case measure => simp [intOf]
      · have hq' : (FloatKind.f64.format.order r1 4598175219545276416 == some .gt) = false := by simpa using hq
        have HQ := Lib.hid (quart_not hq')
        clear hq
        go_wp2_with fail
        clear hg hq'
        (with_reducible refine upon_fl rfl ?_); intro z nz hz
        go_wp2_with fail
        (with_reducible refine upon_fl rfl ?_); intro u nu hu
        go_wp2_with fail
        go_loopw [7, 8] (fun s i wr => ∃ (j n p : Nat), j ≤ 8 ∧ i = .int .i64 (8 - (j : Int)) ∧ wr = w.drewN n ∧ s = .float .f64 p ∧ fv .f64 p = sinP (fv .f64 u) j) (fun _ i _ => (intOf i).toNat)
        case atStart => exact ⟨0, _, _, by omega, rfl, rfl, rfl, rfl⟩
        case round =>
          obtain ⟨j, n, p, hj, rfl, rfl, rfl, hp⟩ := hrel
          have HP := Lib.hid hp
          clear hp
          by_cases h8 : j = 8
          · subst h8
            go_wp2_with fail
            (with_reducible refine upon_fl rfl ?_); intro zp nzp hzp
            go_wp2
            go_ret
            refine RetG.mk _ ?_
            rw [← HR.out, sinF_t HB.out, ← hr1.out, foldV_f HQ.out, fv_neg, hzp.out]
            unfold sinCore
            rw [← hz.out, ← hu.out, ← HP.out]
          · have hc : j = 0 ∨ j = 1 ∨ j = 2 ∨ j = 3 ∨ j = 4 ∨ j = 5 ∨ j = 6 ∨ j = 7 := by omega
            clear h8 hj
            rcases hc with rfl | rfl | rfl | rfl | rfl | rfl | rfl | rfl
            all_goals
              go_wp2_with fail
              (with_reducible refine upon_fl rfl ?_); intro a na ha
              go_wp2_with fail
              (with_reducible refine upon_fl rfl ?_); intro b nb hb
              go_wp2_with fail
              (with_reducible refine upon_fl rfl ?_); intro c nc hc
              go_wp2
              go_roundw
              case rel => first | (refine ⟨1, _, c, by omega, rfl, rfl, rfl, ?_⟩; rw [hc.out, hb.out, ha.out, HP.out]; rfl) | (refine ⟨2, _, c, by omega, rfl, rfl, rfl, ?_⟩; rw [hc.out, hb.out, ha.out, HP.out]; rfl) | (refine ⟨3, _, c, by omega, rfl, rfl, rfl, ?_⟩; rw [hc.out, hb.out, ha.out, HP.out]; rfl) | (refine ⟨4, _, c, by omega, rfl, rfl, rfl, ?_⟩; rw [hc.out, hb.out, ha.out, HP.out]; rfl) | (refine ⟨5, _, c, by omega, rfl, rfl, rfl, ?_⟩; rw [hc.out, hb.out, ha.out, HP.out]; rfl) | (refine ⟨6, _, c, by omega, rfl, rfl, rfl, ?_⟩; rw [hc.out, hb.out, ha.out, HP.out]; rfl) | (refine ⟨7, _, c, by omega, rfl, rfl, rfl, ?_⟩; rw [hc.out, hb.out, ha.out, HP.out]; rfl) | (refine ⟨8, _, c, by omega, rfl, rfl, rfl, ?_⟩; rw [hc.out, hb.out, ha.out, HP.out]; rfl)
              case measure => simp [intOf]
    · have hg' : (FloatKind.f64.format.order r 4602678819172646912 == some .gt || FloatKind.f64.format.order r 4602678819172646912 == some .eq) = false := by simpa using hg
      have HB := Lib.hid (halfB_not hg')
      clear hg
      by_cases hq : (FloatKind.f64.format.order r 4598175219545276416 == some .gt) = true
      · have HQ := Lib.hid (quart_of hq)
        go_wp2_with fail
        (with_reducible refine upon_fl rfl ?_); intro r2 nr2 hr2
        clear hg' hq
        go_wp2_with fail
        (with_reducible refine upon_fl rfl ?_); intro z nz hz
        go_wp2_with fail
        (with_reducible refine upon_fl rfl ?_); intro u nu hu
        go_wp2_with fail
        go_loopw [7, 8] (fun s i wr => ∃ (j n p : Nat), j ≤ 8 ∧ i = .int .i64 (8 - (j : Int)) ∧ wr = w.drewN n ∧ s = .float .f64 p ∧ fv .f64 p = sinP (fv .f64 u) j) (fun _ i _ => (intOf i).toNat)
        case atStart => exact ⟨0, _, _, by omega, rfl, rfl, rfl, rfl⟩
        case round =>
          obtain ⟨j, n, p, hj, rfl, rfl, rfl, hp⟩ := hrel
          have HP := Lib.hid hp
          clear hp
          by_cases h8 : j = 8
          · subst h8
            go_wp2_with fail
            (with_reducible refine upon_fl rfl ?_); intro zp nzp hzp
            go_wp2
            go_ret
            refine RetG.mk _ ?_
            rw [← HR.out, sinF_f HB.out, foldV_t HQ.out, ← hr2.out, hzp.out]
            unfold sinCore
            rw [← hz.out, ← hu.out, ← HP.out]
          · have hc : j = 0 ∨ j = 1 ∨ j = 2 ∨ j = 3 ∨ j = 4 ∨ j = 5 ∨ j = 6 ∨ j = 7 := by omega
            clear h8 hj
            rcases hc with rfl | rfl | rfl | rfl | rfl | rfl | rfl | rfl
            all_goals
              go_wp2_with fail
              (with_reducible refine upon_fl rfl ?_); intro a na ha
              go_wp2_with fail
              (with_reducible refine upon_fl rfl ?_); intro b nb hb
              go_wp2_with fail
              (with_reducible refine upon_fl rfl ?_); intro c nc hc
              go_wp2
              go_roundw
              case rel => first | (refine ⟨1, _, c, by omega, rfl, rfl, rfl, ?_⟩; rw [hc.out, hb.out, ha.out, HP.out]; rfl) | (refine ⟨2, _, c, by omega, rfl, rfl, rfl, ?_⟩; rw [hc.out, hb.out, ha.out, HP.out]; rfl) | (refine ⟨3, _, c, by omega, rfl, rfl, rfl, ?_⟩; rw [hc.out, hb.out, ha.out, HP.out]; rfl) | (refine ⟨4, _, c, by omega, rfl, rfl, rfl, ?_⟩; rw [hc.out, hb.out, ha.out, HP.out]; rfl) | (refine ⟨5, _, c, by omega, rfl, rfl, rfl, ?_⟩; rw [hc.out, hb.out, ha.out, HP.out]; rfl) | (refine ⟨6, _, c, by omega, rfl, rfl, rfl, ?_⟩; rw [hc.out, hb.out, ha.out, HP.out]; rfl) | (refine ⟨7, _, c, by omega, rfl, rfl, rfl, ?_⟩; rw [hc.out, hb.out, ha.out, HP.out]; rfl) | (refine ⟨8, _, c, by omega, rfl, rfl, rfl, ?_⟩; rw [hc.out, hb.out, ha.out, HP.out]; rfl)
              case measure => simp [intOf]
      · have hq' : (FloatKind.f64.format.order r 4598175219545276416 == some .gt) = false := by simpa using hq
        have HQ := Lib.hid (quart_not hq')
        clear hq
        go_wp2_with fail
        clear hg' hq'
        (with_reducible refine upon_fl rfl ?_); intro z nz hz
        go_wp2_with fail
        (with_reducible refine upon_fl rfl ?_); intro u nu hu
        go_wp2_with fail
        go_loopw [7, 8] (fun s i wr => ∃ (j n p : Nat), j ≤ 8 ∧ i = .int .i64 (8 - (j : Int)) ∧ wr = w.drewN n ∧ s = .float .f64 p ∧ fv .f64 p = sinP (fv .f64 u) j) (fun _ i _ => (intOf i).toNat)
        case atStart => exact ⟨0, _, _, by omega, rfl, rfl, rfl, rfl⟩
        case round =>
          obtain ⟨j, n, p, hj, rfl, rfl, rfl, hp⟩ := hrel
          have HP := Lib.hid hp
          clear hp
          by_cases h8 : j = 8
          · subst h8
            go_wp2_with fail
            (with_reducible refine upon_fl rfl ?_); intro zp nzp hzp
            go_wp2
            go_ret
            refine RetG.mk _ ?_
            rw [← HR.out, sinF_f HB.out, foldV_f HQ.out, hzp.out]
            unfold sinCore
            rw [← hz.out, ← hu.out, ← HP.out]
          · have hc : j = 0 ∨ j = 1 ∨ j = 2 ∨ j = 3 ∨ j = 4 ∨ j = 5 ∨ j = 6 ∨ j = 7 := by omega
            clear h8 hj
            rcases hc with rfl | rfl | rfl | rfl | rfl | rfl | rfl | rfl
            all_goals
              go_wp2_with fail
              (with_reducible refine upon_fl rfl ?_); intro a na ha
              go_wp2_with fail
              (with_reducible refine upon_fl rfl ?_); intro b nb hb
              go_wp2_with fail
              (with_reducible refine upon_fl rfl ?_); intro c nc hc
              go_wp2
              go_roundw
              case rel => first | (refine ⟨1, _, c, by omega, rfl, rfl, rfl, ?_⟩; rw [hc.out, hb.out, ha.out, HP.out]; rfl) | (refine ⟨2, _, c, by omega, rfl, rfl, rfl, ?_⟩; rw [hc.out, hb.out, ha.out, HP.out]; rfl) | (refine ⟨3, _, c, by omega, rfl, rfl, rfl, ?_⟩; rw [hc.out, hb.out, ha.out, HP.out]; rfl) | (refine ⟨4, _, c, by omega, rfl, rfl, rfl, ?_⟩; rw [hc.out, hb.out, ha.out, HP.out]; rfl) | (refine ⟨5, _, c, by omega, rfl, rfl, rfl, ?_⟩; rw [hc.out, hb.out, ha.out, HP.out]; rfl) | (refine ⟨6, _, c, by omega, rfl, rfl, rfl, ?_⟩; rw [hc.out, hb.out, ha.out, HP.out]; rfl) | (refine ⟨7, _, c, by omega, rfl, rfl, rfl, ?_⟩; rw [hc.out, hb.out, ha.out, HP.out]; rfl) | (refine ⟨8, _, c, by omega, rfl, rfl, rfl, ?_⟩; rw [hc.out, hb.out, ha.out, HP.out]; rfl)
              case measure => simp [intOf]
  · have hf : (FloatKind.f64.format.order r0 0 == some .lt) = false := by simpa using ht
    have hf' := hf
    rw [order_ford, hr0.out] at hf'
    have HR0 := Lib.hid (hr0.out.trans (shareV_f hf').symm)
    clear ht hf' hr0 hcv
    generalize r0 = r at *
    have HR := HR0
    clear HR0
    by_cases hg : (FloatKind.f64.format.order r 4602678819172646912 == some .gt || FloatKind.f64.format.order r 4602678819172646912 == some .eq) = true
    · have HB := Lib.hid (halfB_of hg)
      go_wp2_with fail
      (with_reducible refine upon_fl rfl ?_); intro r1 nr1 hr1
      by_cases hq : (FloatKind.f64.format.order r1 4598175219545276416 == some .gt) = true
      · have HQ := Lib.hid (quart_of hq)
        go_wp2_with fail
        (with_reducible refine upon_fl rfl ?_); intro r2 nr2 hr2
        clear hg hq
        go_wp2_with fail
        (with_reducible refine upon_fl rfl ?_); intro z nz hz
        go_wp2_with fail
        (with_reducible refine upon_fl rfl ?_); intro u nu hu
        go_wp2_with fail
        go_loopw [7, 8] (fun s i wr => ∃ (j n p : Nat), j ≤ 8 ∧ i = .int .i64 (8 - (j : Int)) ∧ wr = w.drewN n ∧ s = .float .f64 p ∧ fv .f64 p = sinP (fv .f64 u) j) (fun _ i _ => (intOf i).toNat)
        case atStart => exact ⟨0, _, _, by omega, rfl, rfl, rfl, rfl⟩
        case round =>
          obtain ⟨j, n, p, hj, rfl, rfl, rfl, hp⟩ := hrel
          have HP := Lib.hid hp
          clear hp
          by_cases h8 : j = 8
          · subst h8
            go_wp2_with fail
            (with_reducible refine upon_fl rfl ?_); intro zp nzp hzp
            go_wp2
            go_ret
            refine RetG.mk _ ?_
            rw [← HR.out, sinF_t HB.out, ← hr1.out, foldV_t HQ.out, ← hr2.out, fv_neg, hzp.out]
            unfold sinCore
            rw [← hz.out, ← hu.out, ← HP.out]
          · have hc : j = 0 ∨ j = 1 ∨ j = 2 ∨ j = 3 ∨ j = 4 ∨ j = 5 ∨ j = 6 ∨ j = 7 := by omega
            clear h8 hj
            rcases hc with rfl | rfl | rfl | rfl | rfl | rfl | rfl | rfl
            all_goals
              go_wp2_with fail
              (with_reducible refine upon_fl rfl ?_); intro a na ha
              go_wp2_with fail
              (with_reducible refine upon_fl rfl ?_); intro b nb hb
              go_wp2_with fail
              (with_reducible refine upon_fl rfl ?_); intro c nc hc
              go_wp2
              go_roundw
              case rel => first | (refine ⟨1, _, c, by omega, rfl, rfl, rfl, ?_⟩; rw [hc.out, hb.out, ha.out, HP.out]; rfl) | (refine ⟨2, _, c, by omega, rfl, rfl, rfl, ?_⟩; rw [hc.out, hb.out, ha.out, HP.out]; rfl) | (refine ⟨3, _, c, by omega, rfl, rfl, rfl, ?_⟩; rw [hc.out, hb.out, ha.out, HP.out]; rfl) | (refine ⟨4, _, c, by omega, rfl, rfl, rfl, ?_⟩; rw [hc.out, hb.out, ha.out, HP.out]; rfl) | (refine ⟨5, _, c, by omega, rfl, rfl, rfl, ?_⟩; rw [hc.out, hb.out, ha.out, HP.out]; rfl) | (refine ⟨6, _, c, by omega, rfl, rfl, rfl, ?_⟩; rw [hc.out, hb.out, ha.out, HP.out]; rfl) | (refine ⟨7, _, c, by omega, rfl, rfl, rfl, ?_⟩; rw [hc.out, hb.out, ha.out, HP.out]; rfl) | (refine ⟨8, _, c, by omega, rfl, rfl, rfl, ?_⟩; rw [hc.out, hb.out, ha.out, HP.out]; rfl)
              case measure => simp [intOf]
      · have hq' : (FloatKind.f64.format.order r1 4598175219545276416 == some .gt) = false := by simpa using hq
        have HQ := Lib.hid (quart_not hq')
        clear hq
        go_wp2_with fail
        clear hg hq'
        (with_reducible refine upon_fl rfl ?_); intro z nz hz
        go_wp2_with fail
        (with_reducible refine upon_fl rfl ?_); intro u nu hu
        go_wp2_with fail
        go_loopw [7, 8] (fun s i wr => ∃ (j n p : Nat), j ≤ 8 ∧ i = .int .i64 (8 - (j : Int)) ∧ wr = w.drewN n ∧ s = .float .f64 p ∧ fv .f64 p = sinP (fv .f64 u) j) (fun _ i _ => (intOf i).toNat)
        case atStart => exact ⟨0, _, _, by omega, rfl, rfl, rfl, rfl⟩
        case round =>
          obtain ⟨j, n, p, hj, rfl, rfl, rfl, hp⟩ := hrel
          have HP := Lib.hid hp
          clear hp
          by_cases h8 : j = 8
          · subst h8
            go_wp2_with fail
            (with_reducible refine upon_fl rfl ?_); intro zp nzp hzp
            go_wp2
            go_ret
            refine RetG.mk _ ?_
            rw [← HR.out, sinF_t HB.out, ← hr1.out, foldV_f HQ.out, fv_neg, hzp.out]
            unfold sinCore
            rw [← hz.out, ← hu.out, ← HP.out]
          · have hc : j = 0 ∨ j = 1 ∨ j = 2 ∨ j = 3 ∨ j = 4 ∨ j = 5 ∨ j = 6 ∨ j = 7 := by omega
            clear h8 hj
            rcases hc with rfl | rfl | rfl | rfl | rfl | rfl | rfl | rfl
            all_goals
              go_wp2_with fail
              (with_reducible refine upon_fl rfl ?_); intro a na ha
              go_wp2_with fail
              (with_reducible refine upon_fl rfl ?_); intro b nb hb
              go_wp2_with fail
              (with_reducible refine upon_fl rfl ?_); intro c nc hc
              go_wp2
              go_roundw
              case rel => first | (refine ⟨1, _, c, by omega, rfl, rfl, rfl, ?_⟩; rw [hc.out, hb.out, ha.out, HP.out]; rfl) | (refine ⟨2, _, c, by omega, rfl, rfl, rfl, ?_⟩; rw [hc.out, hb.out, ha.out, HP.out]; rfl) | (refine ⟨3, _, c, by omega, rfl, rfl, rfl, ?_⟩; rw [hc.out, hb.out, ha.out, HP.out]; rfl) | (refine ⟨4, _, c, by omega, rfl, rfl, rfl, ?_⟩; rw [hc.out, hb.out, ha.out, HP.out]; rfl) | (refine ⟨5, _, c, by omega, rfl, rfl, rfl, ?_⟩; rw [hc.out, hb.out, ha.out, HP.out]; rfl) | (refine ⟨6, _, c, by omega, rfl, rfl, rfl, ?_⟩; rw [hc.out, hb.out, ha.out, HP.out]; rfl) | (refine ⟨7, _, c, by omega, rfl, rfl, rfl, ?_⟩; rw [hc.out, hb.out, ha.out, HP.out]; rfl) | (refine ⟨8, _, c, by omega, rfl, rfl, rfl, ?_⟩; rw [hc.out, hb.out, ha.out, HP.out]; rfl)
              case measure => simp [intOf]
    · have hg' : (FloatKind.f64.format.order r 4602678819172646912 == some .gt || FloatKind.f64.format.order r 4602678819172646912 == some .eq) = false := by simpa using hg
      have HB := Lib.hid (halfB_not hg')
      clear hg
      by_cases hq : (FloatKind.f64.format.order r 4598175219545276416 == some .gt) = true
      · have HQ := Lib.hid (quart_of hq)
        go_wp2_with fail
        (with_reducible refine upon_fl rfl ?_); intro r2 nr2 hr2
        clear hg' hq
        go_wp2_with fail
        (with_reducible refine upon_fl rfl ?_); intro z nz hz
        go_wp2_with fail
        (with_reducible refine upon_fl rfl ?_); intro u nu hu
        go_wp2_with fail
        go_loopw [7, 8] (fun s i wr => ∃ (j n p : Nat), j ≤ 8 ∧ i = .int .i64 (8 - (j : Int)) ∧ wr = w.drewN n ∧ s = .float .f64 p ∧ fv .f64 p = sinP (fv .f64 u) j) (fun _ i _ => (intOf i).toNat)
        case atStart => exact ⟨0, _, _, by omega, rfl, rfl, rfl, rfl⟩
        case round =>
          obtain ⟨j, n, p, hj, rfl, rfl, rfl, hp⟩ := hrel
          have HP := Lib.hid hp
          clear hp
          by_cases h8 : j = 8
          · subst h8
            go_wp2_with fail
            (with_reducible refine upon_fl rfl ?_); intro zp nzp hzp
            go_wp2
            go_ret
            refine RetG.mk _ ?_
            rw [← HR.out, sinF_f HB.out, foldV_t HQ.out, ← hr2.out, hzp.out]
            unfold sinCore
            rw [← hz.out, ← hu.out, ← HP.out]
          · have hc : j = 0 ∨ j = 1 ∨ j = 2 ∨ j = 3 ∨ j = 4 ∨ j = 5 ∨ j = 6 ∨ j = 7 := by omega
            clear h8 hj
            rcases hc with rfl | rfl | rfl | rfl | rfl | rfl | rfl | rfl
            all_goals
              go_wp2_with fail
              (with_reducible refine upon_fl rfl ?_); intro a na ha
              go_wp2_with fail
              (with_reducible refine upon_fl rfl ?_); intro b nb hb
              go_wp2_with fail
              (with_reducible refine upon_fl rfl ?_); intro c nc hc
              go_wp2
              go_roundw
              case rel => first | (refine ⟨1, _, c, by omega, rfl, rfl, rfl, ?_⟩; rw [hc.out, hb.out, ha.out, HP.out]; rfl) | (refine ⟨2, _, c, by omega, rfl, rfl, rfl, ?_⟩; rw [hc.out, hb.out, ha.out, HP.out]; rfl) | (refine ⟨3, _, c, by omega, rfl, rfl, rfl, ?_⟩; rw [hc.out, hb.out, ha.out, HP.out]; rfl) | (refine ⟨4, _, c, by omega, rfl, rfl, rfl, ?_⟩; rw [hc.out, hb.out, ha.out, HP.out]; rfl) | (refine ⟨5, _, c, by omega, rfl, rfl, rfl, ?_⟩; rw [hc.out, hb.out, ha.out, HP.out]; rfl) | (refine ⟨6, _, c, by omega, rfl, rfl, rfl, ?_⟩; rw [hc.out, hb.out, ha.out, HP.out]; rfl) | (refine ⟨7, _, c, by omega, rfl, rfl, rfl, ?_⟩; rw [hc.out, hb.out, ha.out, HP.out]; rfl) | (refine ⟨8, _, c, by omega, rfl, rfl, rfl, ?_⟩; rw [hc.out, hb.out, ha.out, HP.out]; rfl)
              case measure => simp [intOf]
      · have hq' : (FloatKind.f64.format.order r 4598175219545276416 == some .gt) = false := by simpa using hq
        have HQ := Lib.hid (quart_not hq')
        clear hq
        go_wp2_with fail
        clear hg' hq'
        (with_reducible refine upon_fl rfl ?_); intro z nz hz
        go_wp2_with fail
        (with_reducible refine upon_fl rfl ?_); intro u nu hu
        go_wp2_with fail
        go_loopw [7, 8] (fun s i wr => ∃ (j n p : Nat), j ≤ 8 ∧ i = .int .i64 (8 - (j : Int)) ∧ wr = w.drewN n ∧ s = .float .f64 p ∧ fv .f64 p = sinP (fv .f64 u) j) (fun _ i _ => (intOf i).toNat)
        case atStart => exact ⟨0, _, _, by omega, rfl, rfl, rfl, rfl⟩
        case round =>
          obtain ⟨j, n, p, hj, rfl, rfl, rfl, hp⟩ := hrel
          have HP := Lib.hid hp
          clear hp
          by_cases h8 : j = 8
          · subst h8
            go_wp2_with fail
            (with_reducible refine upon_fl rfl ?_); intro zp nzp hzp
            go_wp2
            go_ret
            refine RetG.mk _ ?_
            rw [← HR.out, sinF_f HB.out, foldV_f HQ.out, hzp.out]
            unfold sinCore
            rw [← hz.out, ← hu.out, ← HP.out]
          · have hc : j = 0 ∨ j = 1 ∨ j = 2 ∨ j = 3 ∨ j = 4 ∨ j = 5 ∨ j = 6 ∨ j = 7 := by omega
            clear h8 hj
            rcases hc with rfl | rfl | rfl | rfl | rfl | rfl | rfl | rfl
            all_goals
              go_wp2_with fail
              (with_reducible refine upon_fl rfl ?_); intro a na ha
              go_wp2_with fail
              (with_reducible refine upon_fl rfl ?_); intro b nb hb
              go_wp2_with fail
              (with_reducible refine upon_fl rfl ?_); intro c nc hc
              go_wp2
              go_roundw
              case rel => first | (refine ⟨1, _, c, by omega, rfl, rfl, rfl, ?_⟩; rw [hc.out, hb.out, ha.out, HP.out]; rfl) | (refine ⟨2, _, c, by omega, rfl, rfl, rfl, ?_⟩; rw [hc.out, hb.out, ha.out, HP.out]; rfl) | (refine ⟨3, _, c, by omega, rfl, rfl, rfl, ?_⟩; rw [hc.out, hb.out, ha.out, HP.out]; rfl) | (refine ⟨4, _, c, by omega, rfl, rfl, rfl, ?_⟩; rw [hc.out, hb.out, ha.out, HP.out]; rfl) | (refine ⟨5, _, c, by omega, rfl, rfl, rfl, ?_⟩; rw [hc.out, hb.out, ha.out, HP.out]; rfl) | (refine ⟨6, _, c, by omega, rfl, rfl, rfl, ?_⟩; rw [hc.out, hb.out, ha.out, HP.out]; rfl) | (refine ⟨7, _, c, by omega, rfl, rfl, rfl, ?_⟩; rw [hc.out, hb.out, ha.out, HP.out]; rfl) | (refine ⟨8, _, c, by omega, rfl, rfl, rfl, ?_⟩; rw [hc.out, hb.out, ha.out, HP.out]; rfl)
              case measure => simp [intOf]
end Go.Proofs.Ytnjkpapjioeffac
