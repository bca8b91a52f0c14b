/- The walk of the law FnLists. -/
import Derived.Test.YtibldgcfplpdkaaFli
import Derived.Deep.QuietTactic
import Derived.BigQuiet
import Derived.IntWalk
namespace Go.Proofs.Ytibldgcfplpdkaa
open Go.ChangeShapes Go.WideShapes Go.ChangeAt Go.RowKit Go.Proofs.Ytibldgcfplpdkaa.Flo
set_option linter.unusedVariables false
attribute [local go_sem] run_store_float
theorem fv_eqL {r b : Nat} (h : fv .f32 r = some b) : r = b := by
  rcases fv_cases .f32 r with ⟨_, h'⟩ | ⟨_, h'⟩
  · rw [h'] at h; cases h
  · rw [h'] at h; exact Option.some.inj h
theorem own_cellF {t : TypeId} {w : World} {lo hi n c : Nat} {a : Option Addr} {zs : List Nat} (h : Own t w lo hi a n c (flos zs)) (h0 : 0 < n) : ∃ g, a = some ⟨g, 0, none⟩ ∧ ∀ j, j < n → w.cell? ⟨g, j, none⟩ = some (.float .f32 (getN zs j)) := by
  rcases h.2.2 with ⟨rfl, hc⟩ | ⟨g, f, rfl, _, _, hr, hf⟩
  · have := h.2.1; omega
  · refine ⟨g, rfl, fun j hj => ?_⟩
    have hl := h.1
    rw [flos_length] at hl
    rw [hr.cell (Nat.lt_of_lt_of_le hj h.2.1), ← hf j hj, flos_get _ _ (by omega)]
    rfl
set_option maxRecDepth 100000 in
set_option maxHeartbeats 8000000 in
theorem walk_FnLists (a0 : Option Addr) (len0 cap0 : Nat) (z0 : List Int) (a1 : Option Addr) (len1 cap1 : Nat) (z1 : List Int) (w : World) (w0 : IsRow .u8 w a0 len0 cap0 z0) (w1 : IsRow .u8 w a1 len1 cap1 z1) :
    Calls Try.prog 4 #[.slice a0 len0 cap0, .slice a1 len1 cap1] w fun e w' => e = .returned (.bool true) ∧ Below w.heap.size w w' := by
  cases hlong : (decide (1048576 < (len0 : Int)) || decide (1048576 < (len1 : Int))) with
  | true =>
    have HL := Lib.hid hlong
    clear hlong w0 w1
    go_enter Try.func4, Try.ntmps4
    go_wp2_with fail
    refine (c_b10Long_of _ _ _ _ _ _ _ true HL.out).mono ?_; rintro e w' ⟨rfl, rfl⟩
    go_wp2
    go_ret
    exact ⟨rfl, Below.refl _ _⟩
  | false =>
  have HL := Lib.hid hlong
  simp only [Bool.or_eq_false_iff, decide_eq_false_iff_not] at hlong
  obtain ⟨bs0, hb0⟩ : ∃ bs, z0.take len0 = bs := ⟨_, rfl⟩
  obtain ⟨bs1, hb1⟩ : ∃ bs, z1.take len1 = bs := ⟨_, rfl⟩
  have C0 := Lib.hid (show Code w a0 len0 bs0 from hb0 ▸ Code.of (by omega) w0)
  have C1 := Lib.hid (show Code w a1 len1 bs1 from hb1 ▸ Code.of (by omega) w1)
  clear w0 w1 hb0 hb1 hlong
  go_enter Try.func4, Try.ntmps4
  go_wp2_with fail
  refine (c_b10Long_of _ _ _ _ _ _ _ false HL.out).mono ?_; rintro e w' ⟨rfl, rfl⟩
  go_wp2_with fail
  refine (c_b10At_k a1 len1 cap1 bs1 0 20 _ (by decide) (by decide) (by decide) C1.out).mono ?_; rintro e w' ⟨q0, hq0, rfl, rfl⟩
  have iq0 : (q0 : Int) ≤ 19 := by omega
  go_wp2_with fail
  refine (c_B10List a0 len0 cap0 bs0 (1 + q0) _ (by omega) C0.out).mono ?_; rintro e wa ⟨an, cn, zs, rfl, hzl, hP, ho, hx⟩
  obtain ⟨n, hn⟩ : ∃ n, 1 + q0 = n := ⟨_, rfl⟩
  have HNI := Lib.hid (show 1 + (q0 : Int) = (n : Int) by omega)
  rw [hn] at hzl ho ⊢
  have n1 : 1 ≤ n := by omega
  have n20 : n ≤ 20 := by omega
  have HFI := Lib.hid hP.fin
  have HZL := Lib.hid hzl
  have HLB := Lib.hid (show listB zs = true by
    rw [listB_fin (by omega) (by omega)]
    exact finB_mk fun i hi => by rw [List.getElem?_eq_getElem hi]; exact HFI.out.1 _ (List.getElem_mem hi))
  have HFB := Lib.hid (show finB zs = true by exact finB_mk fun i hi => by rw [List.getElem?_eq_getElem hi]; exact HFI.out.1 _ (List.getElem_mem hi))
  have O := Lib.hid ho
  have X := Lib.hid hx
  clear hP hzl ho hx hq0
  rw [HNI.out]
  clear iq0
  have inI : (n : Int) ≤ 20 := by omega
  clear hn
  go_wp2_with fail
  refine (c_impl_SortedOf an n cn zs _ (sortR_yes HLB.out) (by omega) O.out.reads HFI.out.2).mono ?_; rintro e wb ⟨pa, cs, rfl, hos, hx⟩
  have HRK := Lib.hid (fun (i l : Nat) => @rank_last zs i l)
  have HASC := Lib.hid (sortF_asc zs)
  have HQA := Lib.hid (fun (p : Nat) => @quan_all zs p)
  have HSFB := Lib.hid (sortF_fin HFB.out)
  have hyl := sortF_length zs
  rw [HZL.out] at hyl
  obtain ⟨ys, hys⟩ : ∃ ys, sortF zs = ys := ⟨_, rfl⟩
  have HYS := Lib.hid hys
  rw [hys] at hos hyl HRK HASC HQA HSFB ⊢
  rw [hyl] at hos ⊢
  have HYL := Lib.hid hyl
  have OS := Lib.hid hos
  have O1 := Lib.hid (O.out.on hx)
  have X1 := Lib.hid (X.out.trans hx)
  clear hos hx hys hyl
  go_wp2_with fail
  refine (c_b10At_k a1 len1 cap1 bs1 1 17 _ (by decide) (by decide) (by decide) (C1.out.on X1.out)).mono ?_; rintro e w' ⟨k, hk, rfl, rfl⟩
  have HK := Lib.hid hk
  have HSH := Lib.hid (shV_all hk)
  have HNV := Lib.hid (nV_all hk n1 n20)
  have hkI : (k : Int) ≤ 16 := by omega
  have hq : ∀ wx : World, (binOp .quo 37 (.float .f32 (floatOfInt .f32 (k : Int))) (.float .f32 1098907648)).run Try.prog wx = .ok (.float .f32 (shV k)) wx := fun wx => by
    rw [run_fl_quo, flR_q HSH.out.1, flD_q HSH.out.1, World.drewN_zero]
  clear hk
  go_wp2_with fail
  have HQR := Lib.hid (show quanR zs (shV k) = (some (getN ys (placeR (shV k) (n : Int) - 1).toNat), true) by rw [quanR_y HLB.out HSH.out.2.1, HYS.out, HZL.out])
  refine (c_impl_QuantileIn an n cn zs (shV k) _ HQR.out (by omega) O1.out.reads HFI.out.2 HSH.out.2.2.1).mono ?_; rintro e wc ⟨f, rfl, hf, hx⟩
  obtain ⟨p, hp⟩ : ∃ p : Nat, placeR (shV k) (n : Int) = (p : Int) := ⟨(placeR (shV k) (n : Int)).toNat, by have := placeR_lo (x := shV k) (n := (n : Int)) (by omega); omega⟩
  have p1 : 1 ≤ p := by have := placeR_lo (x := shV k) (n := (n : Int)) (by omega); omega
  have pn : p ≤ n := by have := placeR_hi (x := shV k) (n := (n : Int)); omega
  have hfp := fv_eqL hf
  have hfp2 : f = getN ys (p - 1) := by rw [hfp]; congr 1; omega
  have HQQ := Lib.hid (HQA.out p p1 (by rw [HZL.out]; exact pn))
  have HP := Lib.hid hp
  rw [← hfp2] at HQQ
  have hfb : f < 4294967296 := by
    rw [hfp2, ← HYS.out]
    have hm : getN (sortF zs) (p - 1) ∈ sortF zs := by
      unfold getN
      rw [List.getElem?_eq_getElem (by rw [HYS.out, HYL.out]; omega)]
      exact List.getElem_mem _
    exact HFI.out.2 _ (sortF_mem hm)
  have HBF := Lib.hid hfb
  clear hfb
  have HFF := Lib.hid (show isFin .f32 f = true by rw [hfp2]; exact getN_fin HSFB.out (by rw [HYL.out]; omega))
  have O2 := Lib.hid (O1.out.on hx)
  have OS2 := Lib.hid (OS.out.on hx)
  have X2 := Lib.hid (X1.out.trans hx)
  clear hx hf hfp hfp2 hp hq hkI
  go_wp2_with fail
  refine (c_impl_IsList an n cn zs _ HLB.out (by omega) O2.out.reads HFI.out.2).mono ?_; rintro e wd ⟨rfl, hx⟩
  have O3 := Lib.hid (O2.out.on hx)
  have OS3 := Lib.hid (OS2.out.on hx)
  have X3 := Lib.hid (X2.out.trans hx)
  clear hx
  go_wp2
  go_loopw [63] (fun i wr => ∃ j : Nat, j ≤ n ∧ i = .int .i64 (j : Int) ∧ Own 37 wr w.heap.size wa.heap.size an n cn (flos zs) ∧ Own 37 wr wa.heap.size wb.heap.size pa n cs (flos ys) ∧ Ext w wr) (fun i _ => n - (intOf i).toNat)
  case atStart => exact ⟨0, Nat.zero_le _, rfl, O3.out, OS3.out, X3.out⟩
  case round =>
    obtain ⟨j, hj, rfl, ho, hos, hext⟩ := hrel
    have HO := Lib.hid ho
    have HOS := Lib.hid hos
    have HX := Lib.hid hext
    clear ho hos hext
    by_cases hlt : j < n
    · have hltI : (j : Int) < (n : Int) := by omega
      obtain ⟨g, hg, hc⟩ := own_cellF HOS.out (by omega)
      have HC := Lib.hid hc
      subst hg
      have hcj := hc j hlt
      obtain ⟨x, hx⟩ : ∃ x, getN ys j = x := ⟨_, rfl⟩
      have HXX := Lib.hid hx
      rw [hx] at hcj
      have HFX := Lib.hid (show isFin .f32 x = true by rw [← hx]; exact getN_fin HSFB.out (by rw [HYL.out]; omega))
      have HBX := Lib.hid (show x < 4294967296 by
        rw [← hx, ← HYS.out]
        have hm : getN (sortF zs) j ∈ sortF zs := by
          unfold getN
          rw [List.getElem?_eq_getElem (by rw [HYS.out, HYL.out]; exact hlt)]
          exact List.getElem_mem _
        exact HFI.out.2 _ (sortF_mem hm))
      obtain ⟨R, hR⟩ : ∃ R, cntLe zs x = R := ⟨_, rfl⟩
      have HR := Lib.hid hR
      have HRR := Lib.hid (show rankR zs x = ((R : Int), true) by rw [rankR_y HLB.out HFX.out, hR])
      clear hc hx hR
      go_wp2_with fail
      refine (c_impl_RankIn _ n cn zs x _ HRR.out (by omega) HO.out.reads HFI.out.2 HBX.out).mono ?_; rintro e we ⟨rfl, hx⟩
      have HO2 := Lib.hid (HO.out.on hx)
      have HOS2 := Lib.hid (HOS.out.on hx)
      have HX2 := Lib.hid (HX.out.trans hx)
      have HC2 := Lib.hid (show ∀ i, i < n → we.cell? ⟨g, i, none⟩ = some (.float .f32 (getN ys i)) from fun i hi => hx.some (HC.out i hi))
      clear hx hcj
      go_wp2
      go_loopw [15] (fun s wr => ∃ l q : Nat, s = .int .i64 (l : Int) ∧ j ≤ l ∧ l < n ∧ (∀ i, j ≤ i → i ≤ l → fkey (getN ys i) = fkey (getN ys j)) ∧ wr = we.drewN q) (fun s _ => n - (intOf s).toNat)
      case atStart => exact ⟨j, 0, rfl, Nat.le_refl _, hlt, fun i h1 h2 => by rw [show i = j by omega], (World.drewN_zero _).symm⟩
      case round =>
        obtain ⟨l, q, rfl, hjl, hln, heq, rfl⟩ := hrel
        have HEQ := Lib.hid heq
        clear heq
        by_cases hl1 : l + 1 < n
        · have lI : (l : Int) + 1 < (n : Int) := by omega
          have l0 : 0 ≤ (l : Int) + 1 := by omega
          have lt : ((l : Int) + 1).toNat = l + 1 := by omega
          obtain ⟨y, hy⟩ : ∃ y, getN ys (l + 1) = y := ⟨_, rfl⟩
          have HY := Lib.hid hy
          have hcy : we.cell? ⟨g, l + 1, none⟩ = some (.float .f32 y) := by rw [← hy]; exact HC2.out (l + 1) hl1
          have hcx9 : we.cell? ⟨g, j, none⟩ = some (.float .f32 x) := by rw [← HXX.out]; exact HC2.out j hlt
          have HFY := Lib.hid (show isFin .f32 y = true by rw [← hy]; exact getN_fin HSFB.out (by rw [HYL.out]; exact hl1))
          have w9 : IntKind.i64.wrap ((l : Int) + 1) = (l : Int) + 1 := IntWalk.i64_in _ (by omega)
          clear hy
          by_cases hk : fkey y = fkey x
          · have hoe : (FloatKind.f32.format.order y x == some .eq) = true := by rw [key_eq HFY.out HFX.out]; exact decide_eq_true hk
            have HKK := Lib.hid hk
            clear hk
            go_wp2
            go_quiet (fail)
            go_wp2
            go_roundw
            case rel => exact ⟨l + 1, _, by go_num, by omega, hl1, fun i h1 h2 => by
              by_cases e : i = l + 1
              · subst e; rw [HY.out, HKK.out, HXX.out]
              · exact HEQ.out i h1 (by omega), by first | rfl | exact World.drewN_drewN _ _ _ | exact (World.drewN_drewN _ _ _).symm | simp⟩
            case measure => simp [intOf]; omega
          · have hoe : (FloatKind.f32.format.order y x == some .eq) = false := by rw [key_eq HFY.out HFX.out]; exact decide_eq_false hk
            have HKK := Lib.hid hk
            clear hk
            go_wp2
            go_quiet (fail)
            have HRI := Lib.hid (show (R : Int) = (l : Int) + 1 by
              have : R = l + 1 := by rw [← HR.out, ← HXX.out]; exact HRK.out j l (by rw [HZL.out]; exact hln) hjl HEQ.out (by rw [HZL.out]; exact .inr (by rw [HY.out, HXX.out]; exact HKK.out))
              omega)
            have w1 : IntKind.i64.wrap ((l : Int) + 1) = (l : Int) + 1 := IntWalk.i64_in _ (by omega)
            go_upto_region 17 with fail
            rw [HRI.out]
            by_cases hj0 : j = 0
            · subst hj0
              go_quiet (fail)
              go_wp2
              go_roundw
              case rel => exact ⟨0 + 1, by omega, by go_num, HO2.out.on (Ext.drewN _ _), HOS2.out.on (Ext.drewN _ _), HX2.out.trans (Ext.drewN _ _)⟩
              case measure => simp [intOf]; omega
            · have hjI : (0 : Int) < (j : Int) := by omega
              have hjN : 0 < j := by omega
              have hjd : decide (0 < j) = true := decide_eq_true hjN
              have w2 : IntKind.i64.wrap ((j : Int) - 1) = (j : Int) - 1 := IntWalk.i64_in _ (by omega)
              have w3 : 0 ≤ (j : Int) - 1 := by omega
              have w4 : ((j : Int) - 1).toNat = j - 1 := by omega
              have w5 : (j : Int) - 1 < (n : Int) := by omega
              obtain ⟨y0, hy0⟩ : ∃ y, getN ys (j - 1) = y := ⟨_, rfl⟩
              have hcy0 : we.cell? ⟨g, j - 1, none⟩ = some (.float .f32 y0) := by rw [← hy0]; exact HC2.out (j - 1) (by omega)
              have hcx : we.cell? ⟨g, j, none⟩ = some (.float .f32 x) := by rw [← HXX.out]; exact HC2.out j hlt
              have hlt2 : (FloatKind.f32.format.order x y0 == some .lt) = false := by
                rw [key_lt HFX.out (by rw [← hy0]; exact getN_fin HSFB.out (by rw [HYL.out]; omega))]
                have := HASC.out (j - 1) j (by omega) (by rw [HYL.out]; exact hlt)
                rw [HXX.out, hy0] at this
                exact decide_eq_false (by omega)
              clear hy0
              go_quiet (fail)
              go_wp2
              go_roundw
              case rel => exact ⟨j + 1, by omega, by go_num, HO2.out.on (Ext.drewN _ _), HOS2.out.on (Ext.drewN _ _), HX2.out.trans (Ext.drewN _ _)⟩
              case measure => simp [intOf]; omega
        · have lI : decide ((l : Int) + 1 < (n : Int)) = false := decide_eq_false (by omega)
          have lI2 : decide (l + 1 < n) = false := decide_eq_false (by omega)
          have lI3 : ¬ (l : Int) + 1 < (n : Int) := by omega
          have w9 : IntKind.i64.wrap ((l : Int) + 1) = (l : Int) + 1 := IntWalk.i64_in _ (by omega)
          go_wp2
          go_quiet (fail)
          have HRI := Lib.hid (show (R : Int) = (l : Int) + 1 by
            have : R = l + 1 := by rw [← HR.out, ← HXX.out]; exact HRK.out j l (by rw [HZL.out]; exact hln) hjl HEQ.out (by rw [HZL.out]; exact .inl (by omega))
            omega)
          have w1 : IntKind.i64.wrap ((l : Int) + 1) = (l : Int) + 1 := IntWalk.i64_in _ (by omega)
          go_upto_region 17 with fail
          rw [HRI.out]
          by_cases hj0 : j = 0
          · subst hj0
            go_quiet (fail)
            go_wp2
            go_roundw
            case rel => exact ⟨0 + 1, by omega, by go_num, HO2.out.on (Ext.drewN _ _), HOS2.out.on (Ext.drewN _ _), HX2.out.trans (Ext.drewN _ _)⟩
            case measure => simp [intOf]; omega
          · have hjI : (0 : Int) < (j : Int) := by omega
            have hjN : 0 < j := by omega
            have hjd : decide (0 < j) = true := decide_eq_true hjN
            have w2 : IntKind.i64.wrap ((j : Int) - 1) = (j : Int) - 1 := IntWalk.i64_in _ (by omega)
            have w3 : 0 ≤ (j : Int) - 1 := by omega
            have w4 : ((j : Int) - 1).toNat = j - 1 := by omega
            have w5 : (j : Int) - 1 < (n : Int) := by omega
            obtain ⟨y0, hy0⟩ : ∃ y, getN ys (j - 1) = y := ⟨_, rfl⟩
            have hcy0 : we.cell? ⟨g, j - 1, none⟩ = some (.float .f32 y0) := by rw [← hy0]; exact HC2.out (j - 1) (by omega)
            have hcx : we.cell? ⟨g, j, none⟩ = some (.float .f32 x) := by rw [← HXX.out]; exact HC2.out j hlt
            have hlt2 : (FloatKind.f32.format.order x y0 == some .lt) = false := by
              rw [key_lt HFX.out (by rw [← hy0]; exact getN_fin HSFB.out (by rw [HYL.out]; omega))]
              have := HASC.out (j - 1) j (by omega) (by rw [HYL.out]; exact hlt)
              rw [HXX.out, hy0] at this
              exact decide_eq_false (by omega)
            clear hy0
            go_quiet (fail)
            go_wp2
            go_roundw
            case rel => exact ⟨j + 1, by omega, by go_num, HO2.out.on (Ext.drewN _ _), HOS2.out.on (Ext.drewN _ _), HX2.out.trans (Ext.drewN _ _)⟩
            case measure => simp [intOf]; omega
    · obtain ⟨g2, hg2, hc2⟩ := own_cellF HO.out (by omega)
      subst hg2
      have HC := Lib.hid hc2
      have hjn : j = n := by omega
      clear hc2
      obtain ⟨R, hR⟩ : ∃ R, cntLe zs f = R := ⟨_, rfl⟩
      have hQQ := HQQ.out
      rw [hR, HZL.out] at hQQ
      obtain ⟨hR1, hR2, hB1⟩ := hQQ
      have HRR := Lib.hid (show rankR zs f = ((R : Int), true) by rw [rankR_y HLB.out HFF.out, hR])
      have hRI : (R : Int) ≤ 20 := by omega
      have HR1 := Lib.hid hR1
      have HR2 := Lib.hid hR2
      have HB1 := Lib.hid hB1
      have hjI : ¬ (j : Int) < (n : Int) := by omega
      clear hR hR1 hR2 hB1 hlt hj
      go_wp2_with fail
      refine (c_impl_RankIn _ n cn zs f _ HRR.out (by omega) HO.out.reads HFI.out.2 HBF.out).mono ?_; rintro e wz ⟨rfl, hx⟩
      have HX2 := Lib.hid (HX.out.trans hx)
      have HC2 := Lib.hid (show ∀ i, i < n → wz.cell? ⟨g2, i, none⟩ = some (.float .f32 (getN zs i)) from fun i hi => hx.some (HC.out i hi))
      clear hx hjI
      go_wp2
      go_loopw [18, 127] (fun s i wr => ∃ m : Nat, m ≤ n ∧ i = .int .i64 (m : Int) ∧ s = .int .i64 ((cntLt (zs.take m) f : Nat) : Int) ∧ wr = wz) (fun _ i _ => n - (intOf i).toNat)
      case atStart => exact ⟨0, Nat.zero_le _, rfl, rfl, rfl⟩
      case round =>
        obtain ⟨m, hm, rfl, rfl, rfl⟩ := hrel
        by_cases hlt : m < n
        · have hltI : (m : Int) < (n : Int) := by omega
          obtain ⟨z, hz⟩ : ∃ z, getN zs m = z := ⟨_, rfl⟩
          have hcz := HC2.out m hlt
          rw [hz] at hcz
          have HFZ : isFin .f32 z = true := by rw [← hz]; exact getN_fin HFB.out (by rw [HZL.out]; exact hlt)
          obtain ⟨c, hc⟩ : ∃ c, cntLt (zs.take m) f = c := ⟨_, rfl⟩
          have hsn := cntLt_snoc zs f (k := m) (by rw [HZL.out]; exact hlt)
          have hcm : c ≤ m := by rw [← hc]; exact cntLt_take zs f m (by rw [HZL.out]; omega)
          rw [hc, hz] at hsn
          have hcI : (c : Int) ≤ 20 := by omega
          rw [hc]
          by_cases hk : fkey z < fkey f
          · have hol : (FloatKind.f32.format.order z f == some .lt) = true := by rw [key_lt HFZ HFF.out]; exact decide_eq_true hk
            rw [if_pos hk] at hsn
            have HSN := Lib.hid hsn
            clear hsn hk hz hc
            go_wp2
            go_roundw
            case rel => exact ⟨m + 1, by omega, by go_num, by rw [HSN.out]; go_num, by first | rfl | trivial⟩
            case measure => simp [intOf]; omega
          · have hol : (FloatKind.f32.format.order z f == some .lt) = false := by rw [key_lt HFZ HFF.out]; exact decide_eq_false hk
            rw [if_neg hk] at hsn
            have HSN := Lib.hid hsn
            clear hsn hk hz hc
            go_wp2
            go_roundw
            case rel => exact ⟨m + 1, by omega, by go_num, by rw [HSN.out]; rfl, by first | rfl | trivial⟩
            case measure => simp [intOf]; omega
        · have hmn : m = n := by omega
          have HT := Lib.hid (show cntLt (zs.take m) f = cntLt zs f by rw [List.take_of_length_le (by rw [HZL.out]; omega)])
          rw [HT.out]
          obtain ⟨B, hB⟩ : ∃ B, cntLt zs f = B := ⟨_, rfl⟩
          have hB1 := HB1.out
          rw [hB] at hB1 ⊢
          have hmI : ¬ (m : Int) < (n : Int) := by omega
          obtain ⟨n_1, n_2, n_3, n_4, n_5⟩ := HNV.out
          have hge : (FloatKind.f64.format.order (floatOfInt .f64 (R : Int)) (skV k n) == some .gt || FloatKind.f64.format.order (floatOfInt .f64 (R : Int)) (skV k n) == some .eq) = true := n_4 R (by have := HR2.out; omega) (by rw [HP.out]; have := HR1.out; omega)
          have hlb : (FloatKind.f64.format.order (floatOfInt .f64 (B : Int)) (akV k n) == some .lt) = true := n_5 B (by omega) (by rw [HP.out]; omega)
          have hcv : ∀ wx : World, (convert 37 42 (.float .f32 (shV k))).run Try.prog wx = .ok (.float .f64 (wkV k)) wx := fun wx => by
            rw [run_conv wx _ _ _ _ _ (by kernel_rfl) (by kernel_rfl)]
            unfold convR convD
            rw [HSH.out.2.2.2]
            rfl
          have hmu : ∀ wx : World, (binOp .mul 42 (.float .f64 (wkV k)) (.float .f64 (floatOfInt .f64 (n : Int)))).run Try.prog wx = .ok (.float .f64 (pkV k n)) wx := fun wx => by
            have h : floatBits .mul .f64 (wkV k) (floatOfInt .f64 (n : Int)) = some (pkV k n) := n_1
            rw [run_fl_mul, flR_q h, flD_q h, World.drewN_zero]
          have hsb : ∀ wx : World, (binOp .sub 42 (.float .f64 (pkV k n)) (.float .f64 4562254508917369340)).run Try.prog wx = .ok (.float .f64 (skV k n)) wx := fun wx => by
            rw [run_fl_sub, flR_q n_2, flD_q n_2, World.drewN_zero]
          have had : ∀ wx : World, (binOp .add 42 (.float .f64 (pkV k n)) (.float .f64 4562254508917369340)).run Try.prog wx = .ok (.float .f64 (akV k n)) wx := fun wx => by
            rw [run_fl_add, flR_q n_3, flD_q n_3, World.drewN_zero]
          clear n_1 n_2 n_3 n_4 n_5 hB hmn hlt hm
          by_cases hB0 : B = 0
          · subst hB0
            clear hB1
            go_wp2
            go_ret
            exact ⟨by first | rfl | (simp [hge]; done), HX2.out⟩
          · have hBN : ¬ B = 0 := hB0
            have hBd : ((B : Int) == 0) = false := by simpa using hB0
            clear hB0 hB1
            go_wp2
            go_ret
            exact ⟨by first | rfl | (simp [hge, hlb]; done), HX2.out⟩
end Go.Proofs.Ytibldgcfplpdkaa
