/- SummaryQuantile: the other side. -/
import Derived.Test.YtmgkbgdbahijnaaSqo
namespace Go.Proofs.Ytmgkbgdbahijnaa
open Go.ChangeShapes Go.WideShapes Go.ChangeAt Go.RowKit Go.Proofs.Ytmgkbgdbahijnaa.Flo
set_option linter.unusedVariables false
set_option maxRecDepth 100000 in
set_option maxHeartbeats 600000 in
theorem c_spec_SummaryQuantile (N C : Int) (a1 : Option Addr) (cap1 : Nat) (vs : List Nat) (a2 : Option Addr) (cap2 : Nat) (gs : List Int) (a3 : Option Addr) (cap3 : Nat) (ss : List Int) (x : Nat) (w : World) {v : Option Nat} {r : Bool} (hv : squanR N C vs gs ss x = (v, r)) (hl : vs.length + gs.length + ss.length ≤ 1048576) (h : Reads3 w a1 vs.length (flos vs) a2 gs.length (ints gs) a3 ss.length (ints ss)) (hb : ∀ z ∈ vs, z < 4294967296) (hx : x < 4294967296) :
    Calls Try.prog 34 #[.agg #[.int .i64 N, .int .i64 C, .slice a1 vs.length cap1, .slice a2 gs.length cap2, .slice a3 ss.length cap3], .float .f32 x] w fun e w' => ∃ f, e = .returned (.tuple #[.float .f32 f, .bool r]) ∧ fv .f32 f = v ∧ Ext w w' := by
  have H := Lib.hid h
  have HL := Lib.hid hl
  have BX := Lib.hid (Box.alloc w #[.int .i64 N, .int .i64 C, .slice a1 vs.length cap1, .slice a2 gs.length cap2, .slice a3 ss.length cap3] 31)
  have X0 := Lib.hid (Ext.alloc w (.cells #[.int .i64 N, .int .i64 C, .slice a1 vs.length cap1, .slice a2 gs.length cap2, .slice a3 ss.length cap3] 31))
  cases ht : summB N C vs gs ss
  · rw [squanR_1 ht] at hv
    cases hv
    have HT := Lib.hid ht
    clear ht h hl hb hx
    go_enter Try.func34, Try.ntmps34
    go_wp2_with fail
    refine (c_spec_l05Is _ N C _ _ vs _ _ gs _ _ ss _ HT.out HL.out (H.out.on X0.out) BX.out).mono ?_; rintro e w1 ⟨rfl, q, rfl⟩
    go_wp2
    go_ret2
    exact ⟨_, rfl, fv0_, X0.out.stepN _⟩
  have HT := Lib.hid ht
  have OK := Lib.hid (summ_ok ht)
  cases hs : shareB x
  · rw [squanR_3 hs] at hv
    cases hv
    have HS := Lib.hid hs
    clear ht h hl hb hx hs
    go_enter Try.func34, Try.ntmps34
    go_wp2_with fail
    refine (c_spec_l05Is _ N C _ _ vs _ _ gs _ _ ss _ HT.out HL.out (H.out.on X0.out) BX.out).mono ?_; rintro e w1 ⟨rfl, q, rfl⟩
    go_wp2_with fail
    refine (c_spec_l02Share x _ HS.out).mono ?_; rintro e w2 ⟨rfl, rfl⟩
    obtain ⟨b0, b1, b2, b3, b4⟩ := (BX.out.on (Ext.drewN _ q)).five
    go_wp2
    go_ret2
    exact ⟨_, rfl, fv0_, X0.out.stepN _⟩
  have HSH := Lib.hid hs
  by_cases hC0 : C = 0
  · rw [squanR_2 hC0] at hv
    cases hv
    subst hC0
    clear ht h hl hb hx hs
    go_enter Try.func34, Try.ntmps34
    go_wp2_with fail
    refine (c_spec_l05Is _ N 0 _ _ vs _ _ gs _ _ ss _ HT.out HL.out (H.out.on X0.out) BX.out).mono ?_; rintro e w1 ⟨rfl, q, rfl⟩
    go_wp2_with fail
    refine (c_spec_l02Share x _ HSH.out).mono ?_; rintro e w2 ⟨rfl, rfl⟩
    obtain ⟨b0, b1, b2, b3, b4⟩ := (BX.out.on (Ext.drewN _ q)).five
    go_wp2
    go_ret2
    exact ⟨_, rfl, fv0_, X0.out.stepN _⟩
  have e0 : (C == 0) = false := beq_eq_false_iff_ne.2 hC0
  rw [squanR_y ht hC0 hs] at hv
  have hcb := OK.out.d.c1
  have hcb2 := OK.out.d.c2
  obtain ⟨K, hK⟩ : ∃ K, placeR x C = K := ⟨_, rfl⟩
  have hk1 : 1 ≤ K := by rw [← hK]; exact placeR_lo (by omega)
  have hk2 : K ≤ C := by rw [← hK]; exact placeR_hi
  have hn1 := summ_some OK.out hC0
  have HG := Lib.hid (show gs.length = vs.length from OK.out.d.ge)
  have HSL := Lib.hid (show ss.length = vs.length from OK.out.d.se)
  have HVX := Lib.hid (show vs.length ≤ 64 from OK.out.d.vx)
  obtain ⟨F, hF⟩ : ∃ F, missF (placeR x C) (lowR gs) (highR gs ss) = F := ⟨_, rfl⟩
  have HFF := Lib.hid (fun i => show F i = max (K - lowR gs i) (highR gs ss i - K) by rw [← hF, ← hK]; rfl)
  have hm0 : nearM C vs.length gs ss x = leastM F vs.length := by unfold nearM; rw [hF]
  rw [hm0] at hv
  obtain ⟨m, hm⟩ : ∃ m, leastM F vs.length = m := ⟨_, rfl⟩
  rw [hm] at hv
  cases hv
  have hml : m < vs.length := by
    have := (leastM_lt F vs.length).2 (by omega)
    rw [← hm]; exact this
  have HM := Lib.hid hm
  obtain ⟨y, hy⟩ : ∃ y, getN vs m = y := ⟨_, rfl⟩
  have HY := Lib.hid hy
  have HFV := Lib.hid (show fv .f32 y = some (getN vs m) by rw [hy]; exact fv_fin_ (by rw [← hy]; exact finB_at OK.out.fin hml))
  have HK := Lib.hid hK
  have HKB := Lib.hid (show 0 ≤ K ∧ K ≤ 2000000 by omega)
  have HCB := Lib.hid (show 0 ≤ C ∧ C ≤ 2097152 by omega)
  have HMS := Lib.hid hml
  have HN1 := Lib.hid hn1
  clear ht h hl hb hx hs hK hk1 hk2 hcb hcb2 hm hy hn1 hml hF hm0
  go_enter Try.func34, Try.ntmps34
  go_wp2_with fail
  refine (c_spec_l05Is _ N C _ _ vs _ _ gs _ _ ss _ HT.out HL.out (H.out.on X0.out) BX.out).mono ?_; rintro e w1 ⟨rfl, q, rfl⟩
  obtain ⟨u, hu⟩ : ∃ u, (w.alloc (.cells #[.int .i64 N, .int .i64 C, .slice a1 vs.length cap1, .slice a2 gs.length cap2, .slice a3 ss.length cap3] 31)).drewN q = u := ⟨_, rfl⟩
  have XU := Lib.hid (show Ext w u by rw [← hu]; exact X0.out.stepN _)
  have BU := Lib.hid (show Box u w.heap.size 31 #[.int .i64 N, .int .i64 C, .slice a1 vs.length cap1, .slice a2 gs.length cap2, .slice a3 ss.length cap3] by rw [← hu]; exact BX.out.on (Ext.drewN _ _))
  rw [hu]
  clear hu
  obtain ⟨b0, b1, b2, b3, b4⟩ := BU.out.five
  go_wp2_with fail
  refine (c_spec_l02Share x _ HSH.out).mono ?_; rintro e w2 ⟨rfl, rfl⟩
  go_wp2_with fail
  refine (c_spec_l05Place x _ _ HK.out HSH.out HCB.out.1 HCB.out.2).mono ?_; rintro e w2 ⟨rfl, rfl⟩
  go_wp2
  go_loopw [7, 8, 32] (fun b l i wr => ∃ k : Nat, ∃ z, k ≤ vs.length ∧ i = .int .i64 k ∧ b = .int .i64 ((leastM F k : Nat) : Int) ∧ l = .int .i64 (if k = 0 then 0 else F (leastM F k)) ∧ wr = u.drewN z) (fun _ _ i _ => vs.length - (intOf i).toNat)
  case atStart => exact ⟨0, 0, Nat.zero_le _, rfl, rfl, by rw [if_pos rfl], by first | rfl | rw [World.drewN_zero]⟩
  case round =>
    obtain ⟨k, z, hk, rfl, rfl, rfl, hw⟩ := hrel
    have HW := Lib.hid hw
    have XR := Lib.hid (show Ext u wr by rw [hw]; exact Ext.drewN _ _)
    clear hw
    have BR := Lib.hid (BU.out.on XR.out)
    clear b0 b1 b2 b3 b4
    obtain ⟨b0, b1, b2, b3, b4⟩ := BR.out.five
    have kv1 : vs.length ≤ 64 := HVX.out
    have kv2 : (vs.length : Int) ≤ 64 := by omega
    by_cases hlt : k < vs.length
    · have kv3 : (k : Int) ≤ 64 := by omega
      have bd := ranks_bd OK.out hlt
      have ff := HFF.out k
      obtain ⟨x1, hx1⟩ : ∃ t, lowR gs k = t := ⟨_, rfl⟩
      obtain ⟨y1, hy1⟩ : ∃ t, highR gs ss k = t := ⟨_, rfl⟩
      obtain ⟨f, hf⟩ : ∃ t, F k = t := ⟨_, rfl⟩
      obtain ⟨p, hp⟩ : ∃ t, leastM F k = t := ⟨_, rfl⟩
      obtain ⟨fp, hfp⟩ : ∃ t, F p = t := ⟨_, rfl⟩
      have hyes := leastM_yes (f := F) (k := k)
      have hno := leastM_no (f := F) (k := k)
      rw [hp, hf, hfp] at hyes hno
      rw [hx1, hy1] at bd ff
      rw [hf] at ff
      have kb := HKB.out
      obtain ⟨d1, hd1⟩ : ∃ d, K - x1 = d := ⟨_, rfl⟩
      obtain ⟨d2, hd2⟩ : ∃ d, y1 - K = d := ⟨_, rfl⟩
      have e1 : wrap64 (K - x1) = d1 := by rw [hd1]; unfold wrap64; omega
      have e2 : wrap64 (y1 - K) = d2 := by rw [hd2]; unfold wrap64; omega
      have HE1 := Lib.hid e1
      have HE2 := Lib.hid e2
      have D1 := Lib.hid hd1
      have D2 := Lib.hid hd2
      have FE := Lib.hid (show max d1 d2 = f by rw [← hd1, ← hd2]; exact ff.symm)
      have HX1 := Lib.hid hx1
      have HY1 := Lib.hid hy1
      have HF := Lib.hid hf
      have HFP := Lib.hid hfp
      have x1a := bd.1.1
      have x1b := bd.1.2
      have y1a := bd.2.1
      have y1b := bd.2.2
      have ka := kb.1
      have kb2 := kb.2
      have HPL := Lib.hid (show p ≤ 64 by have := (leastM_lt F k).1; rw [hp] at this; omega)
      rw [hp]
      have L0 := Lib.hid (show k = 0 → leastM F (k + 1) = k by intro e; subst e; exact leastM_one F)
      have LY := Lib.hid hyes
      have LN := Lib.hid hno
      have HPZ := Lib.hid hp
      have fb := Lib.hid (show -4000000 ≤ f ∧ f ≤ 4000000 by rw [ff]; omega)
      clear bd ff hx1 hy1 hf hp hfp hyes hno hd1 hd2 kb
      rcases Nat.eq_zero_or_pos k with hk0 | hk0
      · have L1 := Lib.hid (L0.out hk0)
        have c0 : ((k : Int) == 0) = true := beq_iff_eq.2 (by omega)
        rw [if_pos hk0]
        have HK0 := Lib.hid hk0
        clear hk0
        go_wp2_with fail
        refine (c_spec_l05Ranks _ N C _ _ _ _ gs.length _ gs _ ss.length _ ss k _ HX1.out HY1.out (by have := HG.out; omega) (by have := HG.out; omega) (by have := HG.out; have := HSL.out; omega) OK.out.d.c2 (fun i hi => OK.out.gap i (by have := HG.out; omega)) (fun i hi => OK.out.slack i (by have := HG.out; omega)) (H.out.on (XU.out.trans XR.out)).r2 (H.out.on (XU.out.trans XR.out)).r3 BR.out).mono ?_; rintro e w3 ⟨rfl, q3, rfl⟩
        have HZ := Lib.hid (show wr.drewN q3 = u.drewN (z + q3) by rw [HW.out, World.drewN_drewN])
        go_wp2_with fail
        refine (c_spec_l00Max_c _ _ f _ (by first | (with_reducible exact FE.out) | (rw [HE1.out, HE2.out]; with_reducible exact FE.out) | (rw [D1.out, D2.out]; with_reducible exact FE.out))).mono ?_; rintro e w4 ⟨rfl, rfl⟩
        go_wp2
        go_roundw
        case rel => exact ⟨k + 1, z + q3, by omega, by go_num, by rw [L1.out], by rw [if_neg (by omega), L1.out, HF.out], HZ.out⟩
        case measure => simp [intOf]; omega
      · have c0 : ((k : Int) == 0) = false := beq_eq_false_iff_ne.2 (by omega)
        rw [if_neg (by omega), HFP.out]
        by_cases hlt2 : f < fp
        · have L1 := Lib.hid (LY.out hlt2)
          go_wp2_with fail
          refine (c_spec_l05Ranks _ N C _ _ _ _ gs.length _ gs _ ss.length _ ss k _ HX1.out HY1.out (by have := HG.out; omega) (by have := HG.out; omega) (by have := HG.out; have := HSL.out; omega) OK.out.d.c2 (fun i hi => OK.out.gap i (by have := HG.out; omega)) (fun i hi => OK.out.slack i (by have := HG.out; omega)) (H.out.on (XU.out.trans XR.out)).r2 (H.out.on (XU.out.trans XR.out)).r3 BR.out).mono ?_; rintro e w3 ⟨rfl, q3, rfl⟩
          have HZ := Lib.hid (show wr.drewN q3 = u.drewN (z + q3) by rw [HW.out, World.drewN_drewN])
          go_wp2_with fail
          refine (c_spec_l00Max_c _ _ f _ (by first | (with_reducible exact FE.out) | (rw [HE1.out, HE2.out]; with_reducible exact FE.out) | (rw [D1.out, D2.out]; with_reducible exact FE.out))).mono ?_; rintro e w4 ⟨rfl, rfl⟩
          go_wp2
          go_roundw
          case rel => exact ⟨k + 1, z + q3, by omega, by go_num, by rw [L1.out], by rw [if_neg (by omega), L1.out, HF.out], HZ.out⟩
          case measure => simp [intOf]; omega
        · have L1 := Lib.hid (LN.out hlt2)
          go_wp2_with fail
          refine (c_spec_l05Ranks _ N C _ _ _ _ gs.length _ gs _ ss.length _ ss k _ HX1.out HY1.out (by have := HG.out; omega) (by have := HG.out; omega) (by have := HG.out; have := HSL.out; omega) OK.out.d.c2 (fun i hi => OK.out.gap i (by have := HG.out; omega)) (fun i hi => OK.out.slack i (by have := HG.out; omega)) (H.out.on (XU.out.trans XR.out)).r2 (H.out.on (XU.out.trans XR.out)).r3 BR.out).mono ?_; rintro e w3 ⟨rfl, q3, rfl⟩
          have HZ := Lib.hid (show wr.drewN q3 = u.drewN (z + q3) by rw [HW.out, World.drewN_drewN])
          go_wp2_with fail
          refine (c_spec_l00Max_c _ _ f _ (by first | (with_reducible exact FE.out) | (rw [HE1.out, HE2.out]; with_reducible exact FE.out) | (rw [D1.out, D2.out]; with_reducible exact FE.out))).mono ?_; rintro e w4 ⟨rfl, rfl⟩
          go_wp2
          go_roundw
          case rel => exact ⟨k + 1, z + q3, by omega, by go_num, by rw [L1.out], by rw [if_neg (by omega), L1.out, HFP.out], HZ.out⟩
          case measure => simp [intOf]; omega
    · obtain rfl : k = vs.length := by omega
      rw [HM.out]
      obtain ⟨l0, hl0⟩ : ∃ l0, (if vs.length = 0 then (0 : Int) else F m) = l0 := ⟨_, rfl⟩
      rw [hl0]
      rcases (H.out.on (XU.out.trans XR.out)).r1.flo.2 with he | ⟨g, off, rfl, hc⟩
      · exfalso; have := HN1.out; omega
      have hcell : wr.cell? ⟨g, off + m, none⟩ = some (.float .f32 y) := by rw [← HY.out]; exact hc m HMS.out
      have kml : (m : Int) < (vs.length : Int) := by have := HMS.out; omega
      have kml2 : m < vs.length := HMS.out
      clear hc hl0
      go_wp2
      go_ret2
      exact ⟨_, rfl, HFV.out, XU.out.trans XR.out⟩
end Go.Proofs.Ytmgkbgdbahijnaa
