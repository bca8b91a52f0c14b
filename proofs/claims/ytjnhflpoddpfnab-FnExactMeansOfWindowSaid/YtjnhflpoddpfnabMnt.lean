/- MeansOfWindow by the other side. -/
import Derived.Test.YtjnhflpoddpfnabMnp
import Derived.Test.YtjnhflpoddpfnabLw6
namespace Go.Proofs.Ytjnhflpoddpfnab
open Go.ChangeShapes Go.WideShapes Go.ChangeAt Go.RowKit Go.Proofs.Ytjnhflpoddpfnab.Flo
set_option linter.unusedVariables false
attribute [local go_sem] run_conv run_store_float run_store_complex
theorem sumV_end (zs : List Nat) (d : Nat) (h : zs.length = d) : sumV (zs.take d) = sumV zs := by rw [List.take_of_length_le (by omega)]
set_option maxRecDepth 100000 in
set_option maxHeartbeats 8000000 in
theorem c_spec_MeansOfWindow (a : Option Addr) (n cap : Nat) (zs : List Nat) (long : Int) (w : World) {rz : List Nat} {rb : Bool} (hv : mnR zs long = (rz, rb)) (hm : n ≤ 1048576) (h : Reads w a n (flos zs)) (hb : ∀ z ∈ zs, z < 4294967296) (hnc : n ≤ cap) :
    Calls Try.prog 23 #[.slice a n cap, .int .i64 long] w (RetSB 40 rz.length (flos rz) rb w) := by
  have hz := h.flo.1
  have H := Lib.hid h
  have HM := Lib.hid hm
  obtain ⟨i0, hi, hi0, hi1, hi2⟩ := info_parts info_f32
  cases h1 : stB zs
  · rw [mnR_no (by unfold mnB; rw [h1]; rfl)] at hv
    cases hv
    have H1 := Lib.hid h1
    clear h1 h hm hz hb
    go_enter Try.func23, Try.ntmps23
    go_wp2_with fail
    refine (c_spec_l06Floats _ _ _ zs _ H1.out HM.out H.out).mono ?_; rintro e w' ⟨rfl, q, rfl⟩
    go_wp2
    go_ret2
    exact ⟨none, 0, rfl, Own.nil _ _ _ _, Ext.drewN _ _⟩
  cases h2 : inB 1 long 128
  · rw [mnR_no (by unfold mnB; rw [h2]; simp)] at hv
    cases hv
    have H1 := Lib.hid h1
    have H2 := Lib.hid h2
    clear h1 h2 h hm hz hb
    go_enter Try.func23, Try.ntmps23
    go_wp2_with fail
    refine (c_spec_l06Floats _ _ _ zs _ H1.out HM.out H.out).mono ?_; rintro e w' ⟨rfl, q, rfl⟩
    go_wp2_with fail
    refine (c_l00In_q _ _ _ _ H2.out).mono ?_; rintro e w' ⟨rfl, rfl⟩
    go_wp2
    go_ret2
    exact ⟨none, 0, rfl, Own.nil _ _ _ _, Ext.drewN _ _⟩
  have HMB := Lib.hid (show mnB zs long = true by unfold mnB; rw [h1, h2]; rfl)
  have ok := mnB_ok HMB.out
  have n1 := ok.1.lo
  have n2 := ok.1.hi
  have b3 := ok.2.1
  have b4 := ok.2.2
  rw [hz] at n1 n2
  have HV := Lib.hid hv
  obtain ⟨L, hL⟩ : ∃ L : Nat, long.toNat = L := ⟨_, rfl⟩
  obtain rfl : long = (L : Int) := by omega
  have HLL := Lib.hid hL
  have hL1 : 1 ≤ L := by omega
  have hL2 : L ≤ 128 := by omega
  have hnI : (n : Int) ≤ 128 := by omega
  have hLI : (L : Int) ≤ 128 := by omega
  rcases h.flo.2 with h0 | ⟨b, off, rfl, hc⟩
  · omega
  have HC := Lib.hid hc
  have HZ := Lib.hid hz
  have H1 := Lib.hid h1
  have H2 := Lib.hid h2
  clear h1 h2 h hm hz hb ok hc hv hL b3 b4
  go_enter Try.func23, Try.ntmps23
  go_wp2_with fail
  refine (c_spec_l06Floats _ _ _ zs _ H1.out HM.out H.out).mono ?_; rintro e w' ⟨rfl, q, rfl⟩
  go_wp2_with fail
  refine (c_l00In_q _ _ _ _ H2.out).mono ?_; rintro e w' ⟨rfl, rfl⟩
  obtain ⟨u, hu⟩ : ∃ u, w.drewN q = u := ⟨_, rfl⟩
  have XU := Lib.hid (show Ext w u by rw [← hu]; exact Ext.drewN _ _)
  rw [hu]
  clear hu
  go_wp2_with fail
  go_loopw [6, 7] (fun v i wr => ∃ k : Nat, k ≤ n ∧ i = .int .i64 k ∧ (∀ j, j < k → finV (mnV zs L j) = true) ∧ wr.ownsRow u.heap.size 40 1 v k (flos ((mnL zs L).take k)) ∧ Ext u wr) (fun _ i _ => n - (intOf i).toNat)
  case atStart => exact ⟨0, Nat.zero_le _, rfl, fun j hj => absurd hj (Nat.not_lt_zero _), World.ownsRow_made _ _ _ (Nat.le_refl _) (Nat.zero_le _) rfl, Ext.alloc _ _⟩
  case round =>
    obtain ⟨k, hk, rfl, hall, hown, hext⟩ := hrel
    have HA := Lib.hid hall
    have HO := Lib.hid hown
    have HE := Lib.hid hext
    clear hall hown hext
    by_cases hlt : k < n
    · have hltI : (k : Int) < (n : Int) := by omega
      obtain ⟨f, hf⟩ : ∃ f, k + 1 - L = f := ⟨_, rfl⟩
      obtain ⟨d, hd⟩ : ∃ d, k + 1 - f = d := ⟨_, rfl⟩
      obtain ⟨lz, hlz⟩ : ∃ lz, lastG zs L k = lz := ⟨_, rfl⟩
      have hd1 : 1 ≤ d := by omega
      have hfd : f + d = k + 1 := by omega
      have HFM := Lib.hid (show max 0 ((k : Int) - (L : Int) + 1) = (f : Int) by omega)
      have HLEN := Lib.hid (show lz.length = d by rw [← hlz, lastG_length zs L k (by rw [HZ.out]; exact hlt), hf, hd])
      have HGET := Lib.hid (show ∀ j, j < d → zs[f + j]?.getD 0 = lz[j]?.getD 0 from fun j hj => by rw [← hlz, lastG_get zs L k j (by omega), hf])
      have HMV := Lib.hid (show mnV zs L k = fop .quo .f32 (sumV lz) (fv .f32 (floatOfInt .f32 (d : Int))) by unfold mnV meanV; rw [hlz, HLEN.out])
      have hdI : (k : Int) - (f : Int) + 1 = (d : Int) := by omega
      have hfI : (f : Int) ≤ 128 := by omega
      have hkI : (k : Int) ≤ 128 := by omega
      clear hf hd hlz
      generalize hwr0 : wr = wr0 at *
      go_wp2_with (go_at_call 47; refine (c_l00Max_l _ _ _ _ HFM.out).mono ?_; rintro e w' ⟨rfl, rfl⟩)
      go_loopw [8, 10] (fun s j wr => ∃ (J r : Nat), J ≤ d ∧ j = .int .i64 ((f + J : Nat) : Int) ∧ s = .float .f32 r ∧ fv .f32 r = sumV (lz.take J) ∧ Ext wr0 wr) (fun _ j _ => k + 1 - (intOf j).toNat)
      case atStart => exact ⟨0, 0, Nat.zero_le _, by rw [Nat.add_zero], rfl, fv_some (by rw [dec_zero]; rfl), Ext.refl _⟩
      case round =>
        obtain ⟨J, r, hJ, rfl, rfl, hr, hx⟩ := hrel
        have HR := Lib.hid hr
        have HX := Lib.hid hx
        clear hr hx
        obtain ⟨p, hp⟩ : ∃ p, f + J = p := ⟨_, rfl⟩
        have HP := Lib.hid hp
        rw [hp]
        by_cases hJl : J < d
        · have hpk : (p : Int) ≤ (k : Int) := by omega
          have hpn : (p : Int) < (n : Int) := by omega
          have hpI : (p : Int) ≤ 128 := by omega
          obtain ⟨y, hy⟩ : ∃ y, zs[p]?.getD 0 = y := ⟨_, rfl⟩
          have hcz : wr.cell? ⟨b, off + p, none⟩ = some (.float .f32 y) := by rw [← hy]; exact HX.out.some (HE.out.some (XU.out.some (HC.out p (by omega))))
          have HS := Lib.hid (show sumV (lz.take (J + 1)) = fop .add .f32 (fv .f32 r) (fv .f32 y) by
            rw [sumV_step lz J (by rw [HLEN.out]; exact hJl), HR.out, ← HGET.out J hJl, HP.out, hy])
          clear hy hp
          go_wp2_with fail
          (with_reducible refine upon_fl rfl ?_); intro g ng hg
          have HG := Lib.hid hg.out
          clear hg
          go_wp2
          go_roundw
          case rel => exact ⟨J + 1, g, by omega, by rw [show f + (J + 1) = p + 1 by have := HP.out; omega]; go_num, rfl, by rw [HS.out]; exact HG.out, HX.out.trans (by (repeat (first | assumption | exact Ext.refl _ | (with_reducible refine Ext.stepS ?_ (by first | exact Nat.le_refl _ | (simp; done) | (simp; omega)) _) | (with_reducible refine Ext.stepN ?_ _) | (with_reducible refine Ext.stepD ?_) | (with_reducible refine Ext.stepA ?_ _))))⟩
          case measure => simp [intOf]; omega
        · have hJd : J = d := by omega
          have HRF := Lib.hid (show fv .f32 r = sumV lz by rw [HR.out, hJd]; exact sumV_end lz d HLEN.out)
          have hpk : (k : Int) < (p : Int) := by omega
          have hpk2 : ¬ (p : Int) ≤ (k : Int) := by omega
          clear hJd hp
          go_wp2_with fail
          (with_reducible refine upon_fl rfl ?_); intro g ng hg
          have HG := Lib.hid (show fv .f32 g = mnV zs L k by rw [HMV.out, hg.out, HRF.out])
          clear hg
          cases hfin : isFin .f32 g
          · have HFN := Lib.hid hfin
            have hno : mnR zs (L : Int) = ([], false) := mnA_no (k := k) (by rw [HZ.out]; exact hlt) (by rw [HLL.out, ← HG.out, finV_fv]; exact hfin)
            have hv2 := HV.out
            rw [hno] at hv2
            simp only [Prod.mk.injEq] at hv2
            obtain ⟨rfl, rfl⟩ := hv2
            clear hfin hno
            go_wp2_with (go_at_call 55; refine (c_spec_l01Finite_b g _ HFN.out).mono ?_; rintro e w' ⟨rfl, q9, rfl⟩)
            go_ret2
            exact ⟨none, 0, rfl, Own.nil _ _ _ _, by have := (XU.out.trans HE.out).trans HX.out; (repeat (first | assumption | exact Ext.refl _ | (with_reducible refine Ext.stepS ?_ (by first | exact Nat.le_refl _ | (simp; done) | (simp; omega)) _) | (with_reducible refine Ext.stepN ?_ _) | (with_reducible refine Ext.stepD ?_) | (with_reducible refine Ext.stepA ?_ _)))⟩
          · have HFN := Lib.hid hfin
            have HGS := Lib.hid (show mnV zs L k = some g by rw [← HG.out]; exact fin_fvS hfin)
            clear hfin
            go_wp2_with fail
            refine (c_spec_l01Finite_b g _ HFN.out).mono ?_; rintro e w9 ⟨rfl, q9, hq9⟩
            have XQ : Ext wr w9 := by rw [hq9]; (repeat (first | assumption | exact Ext.refl _ | (with_reducible refine Ext.stepS ?_ (by first | exact Nat.le_refl _ | (simp; done) | (simp; omega)) _) | (with_reducible refine Ext.stepN ?_ _) | (with_reducible refine Ext.stepD ?_) | (with_reducible refine Ext.stepA ?_ _)))
            have HO1 := Lib.hid (ownsRow_onS HO.out (HX.out.trans XQ))
            have HE1 := Lib.hid ((HE.out.trans HX.out).trans XQ)
            clear hq9 XQ
            go_wp2_with (at_builtin; refine wpList_append_own _ rfl _ _ 29 rfl u.heap.size 40 i0 (.float .f32 0) 1 4 Try.underlying29 hi hi0 hi1 hi2 rfl (by decide) _ _ _ rfl (HO1.out.alloc _) ⟨_, 0, none⟩ 1 1 [.float .f32 g] rfl rfl ?c1 ?c2 ?c3 ?c4 ?c5 ?_)
            try (case c1 => exact one_cell_at _ _ _)
            case c2 => first | rfl | (intro u hu; simp at hu; subst hu; rfl)
            case c3 => unfold maxLen; omega
            case c4 => omega
            case c5 => have := HE1.out.size; simp; omega
            intro v' w10 hown' hgrow _
            have HO' := Lib.hid hown'
            have HE' := Lib.hid (app_step HE1.out HO1.out hgrow)
            clear hown' hgrow
            go_wp2
            go_roundw
            case rel => exact ⟨k + 1, by omega, by go_num, fun j hj => (by
              by_cases e : j = k
              · subst e; rw [HGS.out]; exact HFN.out
              · exact HA.out j (by omega)), by rw [mnL_take zs L k (by rw [HZ.out]; exact hlt), HGS.out]; exact HO'.out, HE'.out⟩
            case measure => simp [intOf]; omega
    · obtain rfl : k = n := by omega
      have hyes : mnR zs (L : Int) = (mnL zs L, true) := by
        have := mnR_yes HMB.out (by rw [HLL.out]; exact allTo_yes (by rw [HZ.out]; exact HA.out))
        rw [HLL.out] at this
        exact this
      have hv2 := HV.out
      rw [hyes] at hv2
      simp only [Prod.mk.injEq] at hv2
      obtain ⟨rfl, rfl⟩ := hv2
      have hl := mnL_length zs L
      obtain ⟨a', c', hv', ho⟩ := Own.of_row (e := 0) HO.out
      subst hv'
      have HO' := Lib.hid ho
      have HL := Lib.hid (show (mnL zs L).length = k by rw [hl, HZ.out])
      clear ho hyes hl hlt
      go_wp2
      go_ret2
      refine ⟨a', c', by first | (rw [HL.out]; done) | (rw [HL.out]; rfl), ?_, XU.out.trans HE.out⟩
      have h1 := HO'.out
      rw [List.take_of_length_le (by rw [HL.out]; exact Nat.le_refl _)] at h1
      rw [HL.out]
      exact h1.wide XU.out.size (Nat.le_refl _)
end Go.Proofs.Ytjnhflpoddpfnab
