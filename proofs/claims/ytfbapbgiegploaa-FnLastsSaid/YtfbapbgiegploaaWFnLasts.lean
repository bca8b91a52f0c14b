/- The walk of the law FnLasts. -/
import Derived.Test.YtfbapbgiegploaaYmd
import Derived.Test.YtfbapbgiegploaaYmb
import Derived.Test.YtfbapbgiegploaaYme
import Derived.Test.YtfbapbgiegploaaYmf
import Derived.Test.YtfbapbgiegploaaYmg
import Derived.Deep.QuietTactic
import Derived.BigQuiet
import Derived.IntWalk
namespace Go.Proofs.Ytfbapbgiegploaa
open Go.ChangeShapes Go.WideShapes Go.ChangeAt Go.RowKit Go.Proofs.Ytfbapbgiegploaa.Flo
set_option linter.unusedVariables false
theorem own_intC {t : TypeId} {w : World} {lo hi n c : Nat} {a : Option Addr} {zs : List Int} (h : Own t w lo hi a n c (ints zs)) (h0 : 0 < n) : ∃ g, a = some ⟨g, 0, none⟩ ∧ ∀ j, j < n → w.cell? ⟨g, j, none⟩ = some (.int .i64 (getI zs j)) := by
  rcases h.2.2 with ⟨rfl, hc⟩ | ⟨g, f, rfl, _, _, hr, hf⟩
  · have := h.2.1; omega
  · refine ⟨g, rfl, fun j hj => ?_⟩
    have hl := h.1
    rw [ints_length] at hl
    rw [hr.cell (Nat.lt_of_lt_of_le hj h.2.1), ← hf j hj, ints_get _ _ (by omega)]
    rfl
theorem own_floC {t : TypeId} {w : World} {lo hi n c : Nat} {a : Option Addr} {zs : List Nat} (h : Own t w lo hi a n c (flos zs)) (h0 : 0 < n) : ∃ g, a = some ⟨g, 0, none⟩ ∧ ∀ j, j < n → w.cell? ⟨g, j, none⟩ = some (.float .f32 (getN zs j)) := by
  rcases h.2.2 with ⟨rfl, hc⟩ | ⟨g, f, rfl, _, _, hr, hf⟩
  · have := h.2.1; omega
  · refine ⟨g, rfl, fun j hj => ?_⟩
    have hl := h.1
    rw [flos_length] at hl
    rw [hr.cell (Nat.lt_of_lt_of_le hj h.2.1), ← hf j hj, flos_get _ _ (by omega)]
    rfl
theorem map_take_snoc {zs : List Int} (f : Int → Nat) {k : Nat} (h : k < zs.length) : (zs.map f).take (k + 1) = (zs.map f).take k ++ [f (getI zs k)] := by
  rw [List.take_succ_eq_append_getElem (by rw [List.length_map]; exact h), List.getElem_map]
  unfold getI; rw [List.getElem?_eq_getElem h]; rfl
set_option maxRecDepth 100000 in
set_option maxHeartbeats 8000000 in
theorem walk_FnLasts (a0 : Option Addr) (len0 cap0 : Nat) (z0 : List Int) (a1 : Option Addr) (len1 cap1 : Nat) (z1 : List Int) (w : World) (w0 : IsRow .u8 w a0 len0 cap0 z0) (w1 : IsRow .u8 w a1 len1 cap1 z1) :
    Calls Try.prog 3 #[.slice a0 len0 cap0, .slice a1 len1 cap1] w fun e w' => e = .returned (.bool true) ∧ Below w.heap.size w w' := by
  have m0 : len0 ≤ maxLen := by rcases w0 with ⟨-, rfl, -⟩ | ⟨x, -, h1, h2, -⟩ <;> unfold maxLen at * <;> omega
  have m1 : len1 ≤ maxLen := by rcases w1 with ⟨-, rfl, -⟩ | ⟨x, -, h1, h2, -⟩ <;> unfold maxLen at * <;> omega
  by_cases hlong : len0 ≤ 48 ∧ len1 ≤ 48
  case neg =>
    have HL := Lib.hid hlong
    clear hlong w0 w1
    go_enter Try.func3, Try.ntmps3
    go_wp2_with fail
    refine (c_r8Long_yes _ _ _ _ _ _ _ HL.out m0 m1).mono ?_; rintro e w' ⟨rfl, rfl⟩
    go_wp2
    go_ret
    exact ⟨rfl, Below.refl _ _⟩
  obtain ⟨i0, hi, hz0, hz1, hz2⟩ := info_parts info_f32
  obtain ⟨l0, l1⟩ := hlong
  obtain ⟨bs0, hb0⟩ : ∃ bs, z0.take len0 = bs := ⟨_, rfl⟩
  obtain ⟨bs1, hb1⟩ : ∃ bs, z1.take len1 = bs := ⟨_, rfl⟩
  have C0 := Lib.hid (show Code w a0 len0 bs0 from hb0 ▸ Code.of (by omega) w0)
  have C1 := Lib.hid (show Code w a1 len1 bs1 from hb1 ▸ Code.of (by omega) w1)
  clear w0 w1 m0 m1 hb0 hb1
  go_enter Try.func3, Try.ntmps3
  go_wp2_with fail
  refine (c_r8Long_no _ _ _ _ _ _ _ l0 l1).mono ?_; rintro e w' ⟨rfl, rfl⟩
  go_wp2_with fail
  refine (c_r8At a1 len1 cap1 bs1 40 20 _ (by decide) (by decide) (by decide) C1.out).mono ?_; rintro e w' ⟨q0, hq0, rfl, rfl⟩
  have iq0 : (q0 : Int) ≤ 19 := by omega
  go_wp2_with fail
  refine (c_R8List a0 len0 cap0 bs0 (1 + q0) _ (by omega) C0.out).mono ?_; rintro e wa ⟨an, cn, zs, rfl, hzl, hP, ho, hx⟩
  obtain ⟨n, hn⟩ : ∃ n, 1 + q0 = n := ⟨_, rfl⟩
  have HNI := Lib.hid (show 1 + (q0 : Int) = (n : Int) by omega)
  rw [hn] at hzl ho ⊢
  have n1 : 1 ≤ n := by omega
  have n20 : n ≤ 20 := by omega
  have HB6 := Lib.hid hP
  have HZL := Lib.hid hzl
  have O := Lib.hid ho
  have X := Lib.hid hx
  have HNC := Lib.hid ho.2.1
  clear hP hzl ho hx hq0
  rw [HNI.out]
  clear iq0
  have inI : (n : Int) ≤ 20 := by omega
  clear hn
  go_wp2_with fail
  refine (c_r8At a1 len1 cap1 bs1 41 8 _ (by decide) (by decide) (by decide) (C1.out.on X.out)).mono ?_; rintro e w' ⟨q1, hq1, rfl, rfl⟩
  have iq1 : (q1 : Int) ≤ 7 := by omega
  have HO0 := Lib.hid (World.ownsRow_made (base := wa.heap.size) (e := 28) (size := 1) wa #[] 0 (Nat.le_refl _) (Nat.zero_le _) rfl)
  have HX0 := Lib.hid (Ext.alloc wa (.cells #[] 28))
  go_wp2
  obtain ⟨L, hL⟩ : ∃ L, 1 + q1 = L := ⟨_, rfl⟩
  have HLI := Lib.hid (show 1 + (q1 : Int) = (L : Int) by omega)
  have L1 : 1 ≤ L := by omega
  have L8 : L ≤ 8 := by omega
  rw [HLI.out]
  clear hL hq1 iq1
  have ilI : (L : Int) ≤ 8 := by omega
  go_loopw [8, 9] (fun v x wr => ∃ k : Nat, k ≤ n ∧ x = .int .i64 (k : Int) ∧ wr.ownsRow wa.heap.size 28 1 v k (flos ((zs.map (floatOfInt .f32)).take k)) ∧ Ext wa wr) (fun _ x _ => n - (intOf x).toNat)
  case atStart => exact ⟨0, Nat.zero_le _, rfl, HO0.out, HX0.out⟩
  case round =>
    as_aux_lemma =>
      obtain ⟨k, hk, rfl, hown, hext⟩ := hrel
      have HO := Lib.hid hown
      have HX := Lib.hid hext
      clear hown hext
      have HBS := Lib.hid (show wa.heap.size ≤ _ from HX.out.size)
      by_cases hlt : k < n
      · as_aux_lemma =>
          have hltI : (k : Int) < (n : Int) := by omega
          obtain ⟨g, rfl, hc⟩ := own_intC (O.out.on HX.out) (by omega)
          have hck := hc k hlt
          have HSN := Lib.hid (map_take_snoc (zs := zs) (floatOfInt .f32) (k := k) (by rw [HZL.out]; exact hlt))
          clear hc
          go_wp2_with (at_builtin; refine wpList_append_own _ rfl _ _ 27 rfl wa.heap.size 28 i0 (.float .f32 0) 1 4 Try.underlying27 hi hz0 hz1 hz2 rfl (by decide) _ _ _ rfl (HO.out.alloc _) ⟨_, 0, none⟩ 1 1 [.float .f32 (floatOfInt .f32 (getI zs k))] rfl rfl (one_cell_at _ _ _) (by intro u hu; simp at hu; subst hu; rfl) (by unfold maxLen; omega) (by omega) (by have := HBS.out; first | (simp; omega) | omega) ?_; intro v' w1 hown' hgrow _; have HO' := Lib.hid hown'; have HG := Lib.hid (grown_low HBS.out HO.out hgrow); have HX' := Lib.hid (show Ext wa w1 from Below.trans HX.out HG.out); clear hown' hgrow)
          go_roundw
          case rel => exact ⟨k + 1, by omega, by go_num, by rw [HSN.out, flos_app]; exact HO'.out, HX'.out⟩
          case measure => simp [intOf]; omega
      · as_aux_lemma =>
          obtain rfl : k = n := by omega
          obtain ⟨fa, fc, rfl, hof⟩ := Own.of_row (e := 0) HO.out
          obtain ⟨fs, hfs⟩ : ∃ fs, zs.map (floatOfInt .f32) = fs := ⟨_, rfl⟩
          have hfl : fs.length = k := by rw [← hfs, List.length_map]; exact HZL.out
          rw [hfs, List.take_of_length_le (Nat.le_of_eq hfl)] at hof
          have OF := Lib.hid hof
          have HFL := Lib.hid hfl
          have HFS := Lib.hid hfs.symm
          have HFC := Lib.hid hof.2.1
          clear hof hfl hfs HO HO0 HX0
          go_wp2_with fail
          obtain ⟨A, hA⟩ : ∃ A, tellZ leastI zs L = A := ⟨_, rfl⟩
          have HRA := Lib.hid (show tellR leastI zs (L : Int) = (A, true) by rw [tellR_yes (read_yes HB6.out (by rw [HZL.out]; exact n1) (by rw [HZL.out]; exact n20) L1 L8), ← hA]; rfl)
          have hAl : A.length = k := by rw [← hA, tellZ_length]; exact HZL.out
          have HVA := Lib.hid (show ∀ i, i < k → getI A i = leastI (lastZ zs L i) from fun i hi => by rw [← hA]; exact tellZ_get _ _ _ _ (by rw [HZL.out]; exact hi))
          have OI0 := Lib.hid (O.out.on HX.out)
          refine (c_impl_LeastOfWindow an k cn zs (L : Int) _ HRA.out (by omega) OI0.out.reads HNC.out).mono ?_; rintro e wa ⟨pa, ca, rfl, ho, hx⟩
          rw [hAl] at ho ⊢
          have OA := Lib.hid ho
          have XA := Lib.hid (Ext.trans HX.out hx)
          have SA := Lib.hid hx
          clear ho hx hA hAl
          go_wp2_with fail
          obtain ⟨B, hB⟩ : ∃ B, tellZ mostI zs L = B := ⟨_, rfl⟩
          have HRB := Lib.hid (show tellR mostI zs (L : Int) = (B, true) by rw [tellR_yes (read_yes HB6.out (by rw [HZL.out]; exact n1) (by rw [HZL.out]; exact n20) L1 L8), ← hB]; rfl)
          have hBl : B.length = k := by rw [← hB, tellZ_length]; exact HZL.out
          have HVB := Lib.hid (show ∀ i, i < k → getI B i = mostI (lastZ zs L i) from fun i hi => by rw [← hB]; exact tellZ_get _ _ _ _ (by rw [HZL.out]; exact hi))
          have OI1 := Lib.hid (O.out.on XA.out)
          refine (c_impl_GreatestOfWindow an k cn zs (L : Int) _ HRB.out (by omega) OI1.out.reads HNC.out).mono ?_; rintro e wb ⟨pb, cb, rfl, ho, hx⟩
          rw [hBl] at ho ⊢
          have OB := Lib.hid ho
          have XB := Lib.hid (Ext.trans XA.out hx)
          have SB := Lib.hid hx
          clear ho hx hB hBl
          go_wp2_with fail
          obtain ⟨M, hM⟩ : ∃ M, tellZ midI zs L = M := ⟨_, rfl⟩
          have HRM := Lib.hid (show tellR midI zs (L : Int) = (M, true) by rw [tellR_yes (read_yes HB6.out (by rw [HZL.out]; exact n1) (by rw [HZL.out]; exact n20) L1 L8), ← hM]; rfl)
          have hMl : M.length = k := by rw [← hM, tellZ_length]; exact HZL.out
          have HVM := Lib.hid (show ∀ i, i < k → getI M i = midI (lastZ zs L i) from fun i hi => by rw [← hM]; exact tellZ_get _ _ _ _ (by rw [HZL.out]; exact hi))
          have OI2 := Lib.hid (O.out.on XB.out)
          refine (c_impl_MiddleOfWindow an k cn zs (L : Int) _ HRM.out (by omega) OI2.out.reads HNC.out).mono ?_; rintro e wm ⟨pm, cm, rfl, ho, hx⟩
          rw [hMl] at ho ⊢
          have OM := Lib.hid ho
          have XM := Lib.hid (Ext.trans XB.out hx)
          have SM := Lib.hid hx
          clear ho hx hM hMl
          go_wp2_with fail
          obtain ⟨T, hT⟩ : ∃ T, tellZ oftI zs L = T := ⟨_, rfl⟩
          have HRT := Lib.hid (show tellR oftI zs (L : Int) = (T, true) by rw [tellR_yes (read_yes HB6.out (by rw [HZL.out]; exact n1) (by rw [HZL.out]; exact n20) L1 L8), ← hT]; rfl)
          have hTl : T.length = k := by rw [← hT, tellZ_length]; exact HZL.out
          have HVT := Lib.hid (show ∀ i, i < k → getI T i = oftI (lastZ zs L i) from fun i hi => by rw [← hT]; exact tellZ_get _ _ _ _ (by rw [HZL.out]; exact hi))
          have OI3 := Lib.hid (O.out.on XM.out)
          refine (c_impl_OftenInWindow an k cn zs (L : Int) _ HRT.out (by omega) OI3.out.reads HNC.out).mono ?_; rintro e wt ⟨pt, ct, rfl, ho, hx⟩
          rw [hTl] at ho ⊢
          have OT := Lib.hid ho
          have XT := Lib.hid (Ext.trans XM.out hx)
          have ST := Lib.hid hx
          clear ho hx hT hTl
          go_wp2_with fail
          have HST := Lib.hid (floats_st HB6.out HFS.out (by rw [HZL.out]; exact n1) (by rw [HZL.out]; exact n20))
          have H6 := Lib.hid (floats_six HB6.out HFS.out)
          have HFB := Lib.hid (floats_fin HB6.out HFS.out).2
          obtain ⟨hme, hmv⟩ := mnR_last HFS.out H6.out.b L1 L8 HST.out
          have HHO := Lib.hid (half_ok H6.out HST.out (by rw [HFL.out]; exact n20))
          have HSO := Lib.hid (still_ok H6.out HST.out)
          obtain ⟨E, hE⟩ : ∃ E, mnL fs L = E := ⟨_, rfl⟩
          obtain ⟨S, hS⟩ : ∃ S, smL fs 1056964608 = S := ⟨_, rfl⟩
          obtain ⟨U, hU⟩ : ∃ U, smL fs 1065353216 = U := ⟨_, rfl⟩
          rw [hE] at hme hmv
          rw [hS] at HHO
          rw [hU] at HSO
          have HRE := Lib.hid hme
          have HVE := Lib.hid hmv
          have hEl : E.length = k := by rw [← hE, mnL_length]; exact HFL.out
          have hSl : S.length = k := by rw [HHO.out.l]; exact HFL.out
          have hUl : U.length = k := by rw [HSO.out.l]; exact HFL.out
          have HSR := Lib.hid HHO.out.r
          have HUR := Lib.hid HSO.out.r
          clear hme hmv hE hS hU
          have YT := Lib.hid (Ext.trans (Ext.trans (Ext.trans SA.out SB.out) SM.out) ST.out)
          have F0 := Lib.hid (OF.out.on YT.out)
          refine (c_impl_MeansOfWindow fa k fc fs (L : Int) _ HRE.out (by omega) F0.out.reads HFB.out HFC.out).mono ?_; rintro e we ⟨pe, ce, rfl, ho, hx⟩
          rw [hEl] at ho ⊢
          have OE := Lib.hid ho
          have SE := Lib.hid hx
          clear ho hx
          go_wp2_with fail
          have YE := Lib.hid (Ext.trans YT.out SE.out)
          have F1 := Lib.hid (OF.out.on YE.out)
          refine (c_impl_SmoothStream fa k fc fs 1056964608 _ HSR.out (by omega) F1.out.reads HFB.out (by decide) HFC.out).mono ?_; rintro e ws ⟨ps, cs, rfl, ho, hx⟩
          rw [hSl] at ho ⊢
          have OS := Lib.hid ho
          have SS := Lib.hid hx
          clear ho hx
          go_wp2_with fail
          have YS := Lib.hid (Ext.trans YE.out SS.out)
          have F2 := Lib.hid (OF.out.on YS.out)
          refine (c_impl_SmoothStream fa k fc fs 1065353216 _ HUR.out (by omega) F2.out.reads HFB.out (by decide) HFC.out).mono ?_; rintro e wz ⟨pu, cu, rfl, ho, hx⟩
          rw [hUl] at ho ⊢
          have OU := Lib.hid ho
          have SU := Lib.hid hx
          clear ho hx
          have YU := Lib.hid (Ext.trans YS.out SU.out)
          have F3 := Lib.hid (OF.out.on YU.out)
          have D4 := Lib.hid (SU.out)
          have D3 := Lib.hid (Ext.trans SS.out D4.out)
          have D2 := Lib.hid (Ext.trans SE.out D3.out)
          have D1 := Lib.hid (Ext.trans ST.out D2.out)
          have D0 := Lib.hid (Ext.trans SM.out D1.out)
          have DB := Lib.hid (Ext.trans SB.out D0.out)
          have GX := Lib.hid (Ext.trans X.out (Ext.trans HX.out YU.out))
          obtain ⟨gz, rfl, hcz⟩ := own_intC (O.out.on (Ext.trans HX.out YU.out)) (by omega)
          obtain ⟨gf, rfl, hcf⟩ := own_floC F3.out (by omega)
          obtain ⟨ga, rfl, hca⟩ := own_intC (OA.out.on DB.out) (by omega)
          obtain ⟨gb, rfl, hcb⟩ := own_intC (OB.out.on D0.out) (by omega)
          obtain ⟨gm, rfl, hcm⟩ := own_intC (OM.out.on D1.out) (by omega)
          obtain ⟨gt, rfl, hct⟩ := own_intC (OT.out.on D2.out) (by omega)
          obtain ⟨ge, rfl, hce⟩ := own_floC (OE.out.on D3.out) (by omega)
          obtain ⟨gs, rfl, hcs⟩ := own_floC (OS.out.on D4.out) (by omega)
          obtain ⟨gu, rfl, hcu⟩ := own_floC OU.out (by omega)
          have HCZ := Lib.hid hcz
          have HCF := Lib.hid hcf
          have HCA := Lib.hid hca
          have HCB := Lib.hid hcb
          have HCM := Lib.hid hcm
          have HCT := Lib.hid hct
          have HCE := Lib.hid hce
          have HCS := Lib.hid hcs
          have HCU := Lib.hid hcu
          clear hcz hcf hca hcb hcm hct hce hcs hcu F0 F1 F2 F3 OF OA OB OM OT OE OS OU OI0 OI1 OI2 OI3 SA SB SM ST SE SS SU YT YE YS D0 D1 D2 D3 D4 DB XA XB XM XT
          go_wp2
          go_loopw [24] (fun x wr => ∃ i q : Nat, i ≤ k ∧ x = .int .i64 (i : Int) ∧ wr = wz.drewN q) (fun x _ => k - (intOf x).toNat)
          case atStart => exact ⟨0, 0, Nat.zero_le _, rfl, (World.drewN_zero _).symm⟩
          case round =>
            as_aux_lemma =>
              obtain ⟨i, q, hik, rfl, rfl⟩ := hrel
              by_cases hlt : i < k
              · as_aux_lemma =>
                  have hltI : (i : Int) < (k : Int) := by omega
                  obtain ⟨W, hW⟩ : ∃ W, lastZ zs L i = W := ⟨_, rfl⟩
                  obtain ⟨F, hF⟩ : ∃ F, i + 1 - L = F := ⟨_, rfl⟩
                  have HFI := Lib.hid (show max 0 ((i : Int) - (L : Int) + 1) = (F : Int) by omega)
                  have hFi : F ≤ i := by omega
                  have HWL := Lib.hid (show W.length = i + 1 - F by rw [← hW, lastZ_length zs L i (by rw [HZL.out]; exact hlt), hF])
                  have HWG := Lib.hid (show ∀ d, d < i + 1 - F → getI W d = getI zs (F + d) from fun d hd => by rw [← hW, ← hF]; exact lastZ_get zs L i d (by rw [hF]; exact hd))
                  have HWB := Lib.hid (show ∀ d, -6 ≤ getI W d ∧ getI W d ≤ 6 by rw [← hW]; exact last_b H6.out.b L i (by rw [HZL.out]; exact hlt))
                  have hcl := HCZ.out i hlt
                  obtain ⟨y, hy⟩ : ∃ y, getI zs i = y := ⟨_, rfl⟩
                  rw [hy] at hcl
                  have hcm := HCM.out i hlt
                  obtain ⟨m, hm⟩ : ∃ m, getI M i = m := ⟨_, rfl⟩
                  rw [hm] at hcm
                  have HM := Lib.hid (show m = midI W by rw [← hm, HVM.out i hlt, hW])
                  have HW := Lib.hid hW
                  have HY := Lib.hid hy
                  have HF := Lib.hid hF
                  clear hW hy hm hF
                  go_wp2
                  rw [HFI.out]
                  go_loopw [26, 27, 28, 29, 30, 31] (fun a b c d e x wr => ∃ j q' : Nat, F ≤ j ∧ j ≤ i + 1 ∧ x = .int .i64 (j : Int) ∧ a = .int .i64 ((W.take (j - F)).foldl minI y) ∧ b = .int .i64 ((W.take (j - F)).foldl maxI y) ∧ c = .int .i64 (sumI (W.take (j - F))) ∧ d = .int .i64 ((cntB (W.take (j - F)) m : Nat) : Int) ∧ e = .int .i64 ((cntU (W.take (j - F)) m : Nat) : Int) ∧ wr = wz.drewN q') (fun _ _ _ _ _ x _ => i + 1 - (intOf x).toNat)
                  case atStart => exact ⟨F, q, Nat.le_refl _, by omega, rfl, by rw [Nat.sub_self]; rfl, by rw [Nat.sub_self]; rfl, by rw [Nat.sub_self]; rfl, by rw [Nat.sub_self]; rfl, by rw [Nat.sub_self]; rfl, rfl⟩
                  case round =>
                    as_aux_lemma =>
                      obtain ⟨j, q', hFj, hji, rfl, rfl, rfl, rfl, rfl, rfl, rfl⟩ := hrel
                      by_cases hj : j ≤ i
                      · as_aux_lemma =>
                          have hjI : (j : Int) ≤ (i : Int) := by omega
                          have hcj := HCZ.out j (by omega)
                          obtain ⟨x, hx⟩ : ∃ x, getI zs j = x := ⟨_, rfl⟩
                          rw [hx] at hcj
                          have hxw : getI W (j - F) = x := by rw [HWG.out (j - F) (by omega), show F + (j - F) = j by omega, hx]
                          have hx6 := HWB.out (j - F)
                          rw [hxw] at hx6
                          obtain ⟨d, hd⟩ : ∃ d, j - F = d := ⟨_, rfl⟩
                          have hdl : d < W.length := by rw [HWL.out]; omega
                          have hd20 : d < 20 := by omega
                          have t1 := fold_take (op := minI) W y d hdl
                          have t2 := fold_take (op := maxI) W y d hdl
                          have t3 := sumI_step W d hdl
                          have t4 := cntB_snoc W m hdl
                          have t5 := cntU_snoc W m hdl
                          have b3 := sumI_bd HWB.out d (by omega)
                          have b4 := cntB_le (W.take d) m
                          have b5 := cntU_le (W.take d) m
                          rw [List.length_take] at b4 b5
                          rw [hd] at hxw ⊢
                          rw [hxw] at t1 t2 t3 t4 t5
                          obtain ⟨lo, hlo⟩ : ∃ lo, (W.take d).foldl minI y = lo := ⟨_, rfl⟩
                          obtain ⟨hh, hhh⟩ : ∃ hh, (W.take d).foldl maxI y = hh := ⟨_, rfl⟩
                          obtain ⟨s, hs⟩ : ∃ s, sumI (W.take d) = s := ⟨_, rfl⟩
                          obtain ⟨nb, hnb⟩ : ∃ nb, cntB (W.take d) m = nb := ⟨_, rfl⟩
                          obtain ⟨nu, hnu⟩ : ∃ nu, cntU (W.take d) m = nu := ⟨_, rfl⟩
                          rw [hlo] at t1 ⊢
                          rw [hhh] at t2 ⊢
                          rw [hs] at t3 b3 ⊢
                          rw [hnb] at t4 b4 ⊢
                          rw [hnu] at t5 b5 ⊢
                          have s1 : -120 ≤ s ∧ s ≤ 120 := by omega
                          have s4 : (nb : Int) ≤ 20 := by omega
                          have s5 : (nu : Int) ≤ 20 := by omega
                          have T1 := Lib.hid t1
                          have T2 := Lib.hid t2
                          have T3 := Lib.hid t3
                          have T4 := Lib.hid t4
                          have T5 := Lib.hid t5
                          have HD := Lib.hid (show j + 1 - F = d + 1 by omega)
                          clear t1 t2 t3 t4 t5 b3 b4 b5 hlo hhh hs hnb hnu hx hxw hd hd20 hdl
                          by_cases c1 : x < m
                          · as_aux_lemma =>
                              have c2 : x ≤ m := by omega
                              go_wp2
                              go_quiet (fail)
                              go_wp2
                              go_quiet (fail)
                              go_wp2
                              go_roundw
                              case rel =>
                                refine ⟨j + 1, _, by omega, by omega, by go_num, ?_, ?_, ?_, ?_, ?_, by first | with_reducible exact World.drewN_drewN _ _ _ | with_reducible rfl | exact (by rw [World.drewN_drewN, World.drewN_drewN]) | simp⟩
                                · rw [HD.out, T1.out]; congr 1; unfold minI; omega
                                · rw [HD.out, T2.out]; congr 1; unfold maxI; omega
                                · rw [HD.out, T3.out]
                                · rw [HD.out, T4.out]; simp [c1]
                                · rw [HD.out, T5.out]; simp [c2]
                              case measure => simp [intOf]; omega
                          · as_aux_lemma =>
                              by_cases c2 : x ≤ m
                              · as_aux_lemma =>
                                  skip
                                  go_wp2
                                  go_quiet (fail)
                                  go_wp2
                                  go_quiet (fail)
                                  go_wp2
                                  go_roundw
                                  case rel =>
                                    refine ⟨j + 1, _, by omega, by omega, by go_num, ?_, ?_, ?_, ?_, ?_, by first | with_reducible exact World.drewN_drewN _ _ _ | with_reducible rfl | exact (by rw [World.drewN_drewN, World.drewN_drewN]) | simp⟩
                                    · rw [HD.out, T1.out]; congr 1; unfold minI; omega
                                    · rw [HD.out, T2.out]; congr 1; unfold maxI; omega
                                    · rw [HD.out, T3.out]
                                    · rw [HD.out, T4.out, if_neg (by omega), Nat.add_zero]
                                    · rw [HD.out, T5.out]; simp [c2]
                                  case measure => simp [intOf]; omega
                              · as_aux_lemma =>
                                  skip
                                  go_wp2
                                  go_quiet (fail)
                                  go_wp2
                                  go_quiet (fail)
                                  go_wp2
                                  go_roundw
                                  case rel =>
                                    refine ⟨j + 1, _, by omega, by omega, by go_num, ?_, ?_, ?_, ?_, ?_, by first | with_reducible exact World.drewN_drewN _ _ _ | with_reducible rfl | exact (by rw [World.drewN_drewN, World.drewN_drewN]) | simp⟩
                                    · rw [HD.out, T1.out]; congr 1; unfold minI; omega
                                    · rw [HD.out, T2.out]; congr 1; unfold maxI; omega
                                    · rw [HD.out, T3.out]
                                    · rw [HD.out, T4.out, if_neg (by omega), Nat.add_zero]
                                    · rw [HD.out, T5.out, if_neg (by omega), Nat.add_zero]
                                  case measure => simp [intOf]; omega
                      · as_aux_lemma =>
                          obtain rfl : j = i + 1 := by omega
                          have hwt : W.take (i + 1 - F) = W := List.take_of_length_le (by rw [HWL.out]; exact Nat.le_refl _)
                          have hlen1 : 1 ≤ W.length := by rw [HWL.out]; omega
                          obtain ⟨hm1, hm2⟩ := mid_all hlen1
                          rw [← HM.out, HWL.out] at hm1 hm2
                          obtain ⟨hl1, hl2⟩ := least_from (zs := zs) (long := L) (i := i) L1 (by rw [HZL.out]; exact hlt)
                          rw [HW.out, HY.out] at hl1 hl2
                          have hA := HVA.out i hlt
                          have hB := HVB.out i hlt
                          have hca := HCA.out i hlt
                          have hcb := HCB.out i hlt
                          obtain ⟨hE, hMO⟩ := HVE.out i (by rw [HZL.out]; exact hlt)
                          have hce := HCE.out i hlt
                          rw [HW.out] at hA hB
                          rw [HW.out, HF.out] at hE hMO
                          rw [hA] at hca
                          rw [hB] at hcb
                          rw [hE] at hce
                          have hcu := HCU.out i hlt
                          have hcf := HCF.out i hlt
                          have hso := HSO.out.z i (by rw [HFL.out]; exact hlt)
                          obtain ⟨u, hu⟩ : ∃ u, getN U i = u := ⟨_, rfl⟩
                          obtain ⟨f, hf⟩ : ∃ f, getN fs i = f := ⟨_, rfl⟩
                          rw [hu] at hcu hso
                          rw [hf] at hcf hso
                          have hse : (FloatKind.f32.format.order u f == some .eq) = true := by rw [hso]; rfl
                          obtain ⟨C, hC⟩ : ∃ C, i + 1 - F = C := ⟨_, rfl⟩
                          have HCI := Lib.hid (show (i : Int) - (F : Int) + 1 = (C : Int) by omega)
                          have hC1 : 1 ≤ C := by omega
                          have hC20 : (C : Int) ≤ 20 := by omega
                          obtain ⟨Q, hQ⟩ : ∃ Q, (C - 1) / 2 = Q := ⟨_, rfl⟩
                          have hq1 : ((C : Int) - 1) / 2 = (Q : Int) := by omega
                          have hq2 : Int.tdiv ((C : Int) - 1) 2 = (Q : Int) := by rw [Int.tdiv_eq_ediv_of_nonneg (by omega)]; exact hq1
                          rw [hC, hQ] at hm1 hm2
                          rw [hC] at hMO hce hwt ⊢
                          rw [hwt, hl1, hl2]
                          obtain ⟨lo, hlo⟩ : ∃ lo, leastI W = lo := ⟨_, rfl⟩
                          obtain ⟨hh, hhh⟩ : ∃ hh, mostI W = hh := ⟨_, rfl⟩
                          obtain ⟨s, hs⟩ : ∃ s, sumI W = s := ⟨_, rfl⟩
                          obtain ⟨nb, hnb⟩ : ∃ nb, cntB W m = nb := ⟨_, rfl⟩
                          obtain ⟨nu, hnu⟩ : ∃ nu, cntU W m = nu := ⟨_, rfl⟩
                          rw [hlo] at hca ⊢
                          rw [hhh] at hcb ⊢
                          rw [hs] at hMO hce ⊢
                          rw [hnb] at hm1 ⊢
                          rw [hnu] at hm2 ⊢
                          have hb1 : ¬ (Q : Int) < (nb : Int) := by omega
                          have hb2 : ¬ (nu : Int) ≤ (Q : Int) := by omega
                          have hd1 : decide (((C : Int) - 1) / 2 < (nb : Int)) = false := decide_eq_false (by omega)
                          have hd2 : decide ((nu : Int) ≤ ((C : Int) - 1) / 2) = false := decide_eq_false (by omega)
                          have hd3 : decide ((Q : Int) < (nb : Int)) = false := decide_eq_false (by omega)
                          have hd4 : decide ((nu : Int) ≤ (Q : Int)) = false := decide_eq_false (by omega)
                          have hgo := hMO.o
                          have HP := Lib.hid hMO.p
                          have HMM := Lib.hid hMO.m
                          have HG := Lib.hid hMO.g
                          have HWW := Lib.hid hMO.w
                          have HVV := Lib.hid hMO.v
                          have hcv : ∀ wx : World, (convert 28 34 (.float .f32 (mQ s (C : Int)))).run Try.prog wx = .ok (.float .f64 (mW s (C : Int))) wx := fun wx => by
                            rw [run_conv wx _ _ _ _ _ (by kernel_rfl) (by kernel_rfl)]
                            unfold convR convD
                            rw [HWW.out]
                            rfl
                          have hqu : ∀ wx : World, (binOp .quo 34 (.float .f64 (floatOfInt .f64 s)) (.float .f64 (floatOfInt .f64 (C : Int)))).run Try.prog wx = .ok (.float .f64 (mV s (C : Int))) wx := fun wx => by
                            rw [run_fl_quo, flR_q HVV.out, flD_q HVV.out, World.drewN_zero]
                          have hse2 : (FloatKind.f32.format.order u f != some .eq) = false := by rw [hso]; rfl
                          have hvt := HVT.out i hlt
                          rw [HW.out] at hvt
                          obtain ⟨v, hv⟩ : ∃ v, oftI W = v := ⟨_, rfl⟩
                          rw [hv] at hvt
                          have hct := HCT.out i hlt
                          rw [hvt] at hct
                          have HV2 := Lib.hid hv
                          have HWT := Lib.hid hwt
                          have HC2 := Lib.hid hC
                          have HL1 := Lib.hid hlen1
                          clear hvt hv
                          clear hl1 hl2 hA hB hE hMO hso hu hf hlo hhh hs hnb hnu hwt hlen1 hm1 hm2 hQ hji hFj hC
                          go_upto_region 40 with fail
                          rw [HCI.out]
                          go_quiet ((go_at_call 24; exact (c_r8Gap _ _ _ HP.out HMM.out HG.out).mono (by rintro e w' ⟨rfl, rfl⟩; exact ⟨rfl, _, rfl⟩)))
                          clear hcv hqu hgo hse hse2 hb1 hb2 hd1 hd2 hd3 hd4 hca hcb hce hcu hcf HP HMM HG HWW HVV
                          go_wp2
                          go_loopw [33, 34] (fun a x wr => ∃ l q' : Nat, F ≤ l ∧ l ≤ i + 1 ∧ x = .int .i64 (l : Int) ∧ a = .int .i64 ((cntI (W.take (l - F)) v : Nat) : Int) ∧ wr = wz.drewN q') (fun _ x _ => i + 1 - (intOf x).toNat)
                          case atStart => exact ⟨F, _, Nat.le_refl _, by omega, rfl, by rw [Nat.sub_self]; rfl, by first | with_reducible exact World.drewN_drewN _ _ _ | with_reducible rfl | simp⟩
                          case round =>
                            as_aux_lemma =>
                              obtain ⟨l, q2, hFl, hli, rfl, rfl, rfl⟩ := hrel
                              by_cases hl : l ≤ i
                              · as_aux_lemma =>
                                  skip
                                  have hjI : (l : Int) ≤ (i : Int) := by omega
                                  have hcl := HCZ.out l (by omega)
                                  obtain ⟨x, hx⟩ : ∃ x, getI zs l = x := ⟨_, rfl⟩
                                  rw [hx] at hcl
                                  have hxw : getI W (l - F) = x := by rw [HWG.out (l - F) (by omega), show F + (l - F) = l by omega, hx]
                                  obtain ⟨d, hd⟩ : ∃ d, l - F = d := ⟨_, rfl⟩
                                  have hdl : d < W.length := by rw [HWL.out]; omega
                                  have t1 := cntI_take W d hdl v
                                  have b1 := cntI_le (W.take d) v
                                  rw [List.length_take] at b1
                                  rw [hd] at hxw ⊢
                                  rw [hxw] at t1
                                  obtain ⟨c, hc⟩ : ∃ c, cntI (W.take d) v = c := ⟨_, rfl⟩
                                  rw [hc] at t1 b1 ⊢
                                  have s1 : (c : Int) ≤ 20 := by have := HWL.out; omega
                                  have T1 := Lib.hid t1
                                  have HD := Lib.hid (show l + 1 - F = d + 1 by omega)
                                  clear t1 b1 hc hx hxw hd hdl
                                  by_cases e : x = v
                                  · as_aux_lemma =>
                                      have e2 : (x == v) = true := by simp [e]
                                      go_wp2
                                      go_quiet (fail)
                                      go_wp2
                                      go_roundw
                                      case rel => exact ⟨l + 1, _, by omega, by omega, by go_num, by rw [HD.out, T1.out, if_pos e]; first | rfl | simp, by first | with_reducible exact World.drewN_drewN _ _ _ | with_reducible rfl | exact (by rw [World.drewN_drewN, World.drewN_drewN]) | simp⟩
                                      case measure => simp [intOf]; omega
                                  · as_aux_lemma =>
                                      have e2 : (x == v) = false := by simp [e]
                                      go_wp2
                                      go_quiet (fail)
                                      go_wp2
                                      go_roundw
                                      case rel => exact ⟨l + 1, _, by omega, by omega, by go_num, by rw [HD.out, T1.out, if_neg e, Nat.add_zero], by first | with_reducible exact World.drewN_drewN _ _ _ | with_reducible rfl | exact (by rw [World.drewN_drewN, World.drewN_drewN]) | simp⟩
                                      case measure => simp [intOf]; omega
                              · as_aux_lemma =>
                                  obtain rfl : l = i + 1 := by omega
                                  rw [show W.take (i + 1 - F) = W by rw [HC2.out]; exact HWT.out]
                                  obtain ⟨B, hB⟩ : ∃ B, cntI W v = B := ⟨_, rfl⟩
                                  have hB20 := cntI_le W v
                                  rw [hB] at hB20 ⊢
                                  obtain ⟨b, hb⟩ : ∃ b : Int, (B : Int) = b := ⟨_, rfl⟩
                                  rw [hb]
                                  have HB := Lib.hid hB
                                  have HBb := Lib.hid hb
                                  clear hB hb hB20 hct hFl hli
                                  have hct := HCT.out i hlt
                                  rw [HVT.out i hlt, HW.out, HV2.out] at hct
                                  go_wp2
                                  go_loopw [35] (fun x wr => ∃ j q' : Nat, F ≤ j ∧ j ≤ i + 1 ∧ x = .int .i64 (j : Int) ∧ wr = wz.drewN q') (fun x _ => i + 1 - (intOf x).toNat)
                                  case atStart => exact ⟨F, _, Nat.le_refl _, by omega, rfl, by first | with_reducible exact World.drewN_drewN _ _ _ | with_reducible rfl | simp⟩
                                  case round =>
                                    as_aux_lemma =>
                                      obtain ⟨j, q3, hFj, hji, rfl, rfl⟩ := hrel
                                      by_cases hj : j ≤ i
                                      · as_aux_lemma =>
                                          have hjjI : (j : Int) ≤ (i : Int) := by omega
                                          have hcj := HCZ.out j (by omega)
                                          obtain ⟨y, hy⟩ : ∃ y, getI zs j = y := ⟨_, rfl⟩
                                          rw [hy] at hcj
                                          have hyw : getI W (j - F) = y := by rw [HWG.out (j - F) (by omega), show F + (j - F) = j by omega, hy]
                                          obtain ⟨oa, ob⟩ := oft_all (zs := W) HL1.out (v := y) (by rw [← hyw]; exact getI_mem (by rw [HWL.out]; omega))
                                          rw [HV2.out, HB.out] at oa ob
                                          have OA := Lib.hid oa
                                          have OB := Lib.hid ob
                                          have HJF := Lib.hid hFj
                                          have HJI := Lib.hid hji
                                          clear oa ob hy hyw hFj hji
                                          go_wp2
                                          go_loopw [36, 37] (fun a x wr => ∃ l q' : Nat, F ≤ l ∧ l ≤ i + 1 ∧ x = .int .i64 (l : Int) ∧ a = .int .i64 ((cntI (W.take (l - F)) y : Nat) : Int) ∧ wr = wz.drewN q') (fun _ x _ => i + 1 - (intOf x).toNat)
                                          case atStart => exact ⟨F, _, Nat.le_refl _, by omega, rfl, by rw [Nat.sub_self]; rfl, by first | with_reducible exact World.drewN_drewN _ _ _ | with_reducible rfl | simp⟩
                                          case round =>
                                            as_aux_lemma =>
                                              obtain ⟨l, q2, hFl, hli, rfl, rfl, rfl⟩ := hrel
                                              by_cases hl : l ≤ i
                                              · as_aux_lemma =>
                                                  skip
                                                  have hjI : (l : Int) ≤ (i : Int) := by omega
                                                  have hcl := HCZ.out l (by omega)
                                                  obtain ⟨x, hx⟩ : ∃ x, getI zs l = x := ⟨_, rfl⟩
                                                  rw [hx] at hcl
                                                  have hxw : getI W (l - F) = x := by rw [HWG.out (l - F) (by omega), show F + (l - F) = l by omega, hx]
                                                  obtain ⟨d, hd⟩ : ∃ d, l - F = d := ⟨_, rfl⟩
                                                  have hdl : d < W.length := by rw [HWL.out]; omega
                                                  have t1 := cntI_take W d hdl y
                                                  have b1 := cntI_le (W.take d) y
                                                  rw [List.length_take] at b1
                                                  rw [hd] at hxw ⊢
                                                  rw [hxw] at t1
                                                  obtain ⟨c, hc⟩ : ∃ c, cntI (W.take d) y = c := ⟨_, rfl⟩
                                                  rw [hc] at t1 b1 ⊢
                                                  have s1 : (c : Int) ≤ 20 := by have := HWL.out; omega
                                                  have T1 := Lib.hid t1
                                                  have HD := Lib.hid (show l + 1 - F = d + 1 by omega)
                                                  clear t1 b1 hc hx hxw hd hdl
                                                  by_cases e : x = y
                                                  · as_aux_lemma =>
                                                      have e2 : (x == y) = true := by simp [e]
                                                      go_wp2
                                                      go_quiet (fail)
                                                      go_wp2
                                                      go_roundw
                                                      case rel => exact ⟨l + 1, _, by omega, by omega, by go_num, by rw [HD.out, T1.out, if_pos e]; first | rfl | simp, by first | with_reducible exact World.drewN_drewN _ _ _ | with_reducible rfl | exact (by rw [World.drewN_drewN, World.drewN_drewN]) | simp⟩
                                                      case measure => simp [intOf]; omega
                                                  · as_aux_lemma =>
                                                      have e2 : (x == y) = false := by simp [e]
                                                      go_wp2
                                                      go_quiet (fail)
                                                      go_wp2
                                                      go_roundw
                                                      case rel => exact ⟨l + 1, _, by omega, by omega, by go_num, by rw [HD.out, T1.out, if_neg e, Nat.add_zero], by first | with_reducible exact World.drewN_drewN _ _ _ | with_reducible rfl | exact (by rw [World.drewN_drewN, World.drewN_drewN]) | simp⟩
                                                      case measure => simp [intOf]; omega
                                              · as_aux_lemma =>
                                                  obtain rfl : l = i + 1 := by omega
                                                  rw [show W.take (i + 1 - F) = W by rw [HC2.out]; exact HWT.out]
                                                  obtain ⟨A, hA⟩ : ∃ A, cntI W y = A := ⟨_, rfl⟩
                                                  have oa := OA.out
                                                  have ob := OB.out
                                                  rw [hA] at oa ob ⊢
                                                  obtain ⟨a, ha⟩ : ∃ a : Int, (A : Int) = a := ⟨_, rfl⟩
                                                  rw [ha]
                                                  have hb := HBb.out
                                                  by_cases hAB : a = b
                                                  · as_aux_lemma =>
                                                      have g1 : decide (b < a) = false := decide_eq_false (by omega)
                                                      have g2 : (a == b) = true := by simp [hAB]
                                                      have g3 : ¬ y < v := by have := ob (by omega); omega
                                                      have g4 : decide (y < v) = false := decide_eq_false g3
                                                      clear hA ha hb oa ob hFl hli hAB g3
                                                      go_wp2
                                                      go_quiet (fail)
                                                      go_wp2
                                                      go_roundw
                                                      case rel => exact ⟨j + 1, _, by have := HJF.out; omega, by omega, by go_num, by first | with_reducible exact World.drewN_drewN _ _ _ | with_reducible rfl | exact (by rw [World.drewN_drewN, World.drewN_drewN]) | simp⟩
                                                      case measure => simp [intOf]; omega
                                                  · as_aux_lemma =>
                                                      have g1 : decide (b < a) = false := decide_eq_false (by omega)
                                                      have g2 : (a == b) = false := by simp [hAB]
                                                      clear hA ha hb oa ob hFl hli
                                                      go_wp2
                                                      go_quiet (fail)
                                                      go_wp2
                                                      go_roundw
                                                      case rel => exact ⟨j + 1, _, by have := HJF.out; omega, by omega, by go_num, by first | with_reducible exact World.drewN_drewN _ _ _ | with_reducible rfl | exact (by rw [World.drewN_drewN, World.drewN_drewN]) | simp⟩
                                                      case measure => simp [intOf]; omega
                                      · as_aux_lemma =>
                                          obtain rfl : j = i + 1 := by omega
                                          clear hFj hji hct
                                          by_cases hi0 : i = 0
                                          · as_aux_lemma =>
                                              have n0 : ¬ (0 : Int) < (i : Int) := by omega
                                              have n1' : decide ((0 : Int) < (i : Int)) = false := decide_eq_false n0
                                              have n2' : ¬ 0 < i := by omega
                                              have n3' : decide (0 < i) = false := decide_eq_false n2'
                                              have HI0 := Lib.hid hi0
                                              clear hi0
                                              go_wp2
                                              go_quiet (fail)
                                              go_wp2
                                              go_roundw
                                              case rel => exact ⟨i + 1, _, by omega, by go_num, by first | with_reducible exact World.drewN_drewN _ _ _ | with_reducible rfl | exact (by rw [World.drewN_drewN, World.drewN_drewN]) | simp⟩
                                              case measure => simp [intOf]; omega
                                          · as_aux_lemma =>
                                              obtain ⟨e, he⟩ : ∃ e, i = e + 1 := ⟨i - 1, by omega⟩
                                              obtain ⟨A, B', X', t1, t2, t3, p, r, G⟩ := HHO.out.g e (by rw [HFL.out]; omega)
                                              rw [← he] at G
                                              have p0 : (0 : Int) < (i : Int) := by omega
                                              have p1 : decide ((0 : Int) < (i : Int)) = true := decide_eq_true p0
                                              have p2 : 0 < i := by omega
                                              have p3 : decide (0 < i) = true := decide_eq_true p2
                                              have e2 : (i : Int) - 1 = (e : Int) := by omega
                                              have e5 : (e : Int) < (k : Int) := by omega
                                              have c1 := HCS.out i hlt
                                              have c2 := HCS.out e (by omega)
                                              have c3 := HCF.out i hlt
                                              obtain ⟨sa, hsa⟩ : ∃ s, getN S i = s := ⟨_, rfl⟩
                                              obtain ⟨sb, hsb⟩ : ∃ s, getN S e = s := ⟨_, rfl⟩
                                              obtain ⟨sx, hsx⟩ : ∃ s, getN fs i = s := ⟨_, rfl⟩
                                              rw [hsa] at c1 G
                                              rw [hsb] at c2 G
                                              rw [hsx] at c3 G
                                              have HG := Lib.hid G
                                              have hgo := G.g
                                              have hcv1 : ∀ wx : World, (convert 28 34 (.float .f32 sa)).run Try.prog wx = .ok (.float .f64 A) wx := fun wx => by
                                                rw [run_conv wx _ _ _ _ _ (by kernel_rfl) (by kernel_rfl)]; unfold convR convD; rw [HG.out.wA]; rfl
                                              have hcv2 : ∀ wx : World, (convert 28 34 (.float .f32 sb)).run Try.prog wx = .ok (.float .f64 B') wx := fun wx => by
                                                rw [run_conv wx _ _ _ _ _ (by kernel_rfl) (by kernel_rfl)]; unfold convR convD; rw [HG.out.wB]; rfl
                                              have hcv3 : ∀ wx : World, (convert 28 34 (.float .f32 sx)).run Try.prog wx = .ok (.float .f64 X') wx := fun wx => by
                                                rw [run_conv wx _ _ _ _ _ (by kernel_rfl) (by kernel_rfl)]; unfold convR convD; rw [HG.out.wX]; rfl
                                              have ho1 : ∀ wx : World, (binOp .sub 34 (.float .f64 X') (.float .f64 B')).run Try.prog wx = .ok (.float .f64 t1) wx := fun wx => by
                                                rw [run_fl_sub, flR_q HG.out.s1, flD_q HG.out.s1, World.drewN_zero]
                                              have ho2 : ∀ wx : World, (binOp .mul 34 (.float .f64 4602678819172646912) (.float .f64 t1)).run Try.prog wx = .ok (.float .f64 t2) wx := fun wx => by
                                                rw [run_fl_mul, flR_q HG.out.s2, flD_q HG.out.s2, World.drewN_zero]
                                              have ho3 : ∀ wx : World, (binOp .add 34 (.float .f64 B') (.float .f64 t2)).run Try.prog wx = .ok (.float .f64 t3) wx := fun wx => by
                                                rw [run_fl_add, flR_q HG.out.s3, flD_q HG.out.s3, World.drewN_zero]
                                              have HR := Lib.hid (show gapR p r = some p by unfold gapR; rw [G.o, G.n]; rfl)
                                              have HE := Lib.hid he
                                              clear he hi0 G hsa hsb hsx
                                              go_wp2
                                              go_quiet ((go_at_call 24; exact (c_r8Gap _ _ _ HG.out.s4 HG.out.s5 HR.out).mono (by rintro e w' ⟨rfl, rfl⟩; exact ⟨rfl, _, rfl⟩)))
                                              go_wp2
                                              go_roundw
                                              case rel => exact ⟨i + 1, _, by omega, by go_num, by first | with_reducible exact World.drewN_drewN _ _ _ | with_reducible rfl | exact (by rw [World.drewN_drewN, World.drewN_drewN]) | simp⟩
                                              case measure => simp [intOf]; omega
              · as_aux_lemma =>
                  obtain rfl : i = k := by omega
                  have c1 := HCS.out 0 (by omega)
                  have c2 := HCF.out 0 (by omega)
                  have hz := HHO.out.z
                  obtain ⟨sa, hsa⟩ : ∃ s, getN S 0 = s := ⟨_, rfl⟩
                  obtain ⟨sx, hsx⟩ : ∃ s, getN fs 0 = s := ⟨_, rfl⟩
                  rw [hsa] at c1 hz
                  rw [hsx] at c2 hz
                  have hse : (FloatKind.f32.format.order sa sx == some .eq) = true := by rw [hz]; rfl
                  have h1I : (0 : Int) < (i : Int) := by omega
                  clear hsa hsx hz
                  go_wp2
                  go_quiet (fail)
                  go_wp2
                  go_ret
                  exact ⟨by first | rfl | (rw [hse]), by first | exact GX.out | exact Ext.trans GX.out (Ext.drewN _ _) | exact Ext.trans GX.out (Ext.trans (Ext.drewN _ _) (Ext.drewN _ _))⟩
end Go.Proofs.Ytfbapbgiegploaa

