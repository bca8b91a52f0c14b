/- OutFinger: the other side. -/
import Derived.Test.YtfolflkbpdbkcabFik
namespace Go.Proofs.Ytfolflkbpdbkcab
open Go.ChangeShapes Go.WideShapes Go.ChangeAt Go.RowKit
set_option linter.unusedVariables false
set_option maxRecDepth 100000 in
set_option maxHeartbeats 4000000 in
theorem c_spec_OutFinger (S : Int) (a : Option Addr) (n cap : Nat) (zs : List Int) (key : Int) (w : World) {V : FV} {v : Bool} (hv : outFinR S zs key = (V, v)) (hm : n ≤ maxLen) (h : Reads w a n (ints zs)) :
    Calls Try.prog 39 #[.agg #[.int .i64 S, .slice a n cap], .int .i64 key] w (RetKFB 2 V v w) := by
  have hn := h.int.1
  subst hn
  have H := Lib.hid h
  have BX := Lib.hid ((Box.alloc w #[.int .i64 S, .slice a zs.length cap] 41).past (.cells #[.int .i64 0, .slice none 0 0] 41))
  have BZ := Lib.hid (Box.alloc_at (w.alloc (.cells #[.int .i64 S, .slice a zs.length cap] 41)) #[.int .i64 0, .slice none 0 0] 41 (b := w.heap.size + 1) (by simp))
  clear h
  cases hc : fgB S zs
  · rw [outFinR_1 hc] at hv
    simp only [Prod.mk.injEq] at hv
    obtain ⟨rfl, rfl⟩ := hv
    have HC := Lib.hid hc
    clear hc
    go_enter Try.func39, Try.ntmps39
    go_wp2_with (go_at_call 71; refine (c_spec_l04Fingers w.heap.size S a zs.length cap zs _ HC.out (BX.out.on (by (repeat (first | assumption | exact Ext.refl _ | (with_reducible refine Ext.stepS ?_ (by first | exact Nat.le_refl _ | (simp; done) | (simp; omega)) _) | (with_reducible refine Ext.stepN ?_ _) | (with_reducible refine Ext.stepD ?_) | (with_reducible refine Ext.stepA ?_ _))))) hm (H.out.on (by (repeat (first | assumption | exact Ext.refl _ | (with_reducible refine Ext.stepS ?_ (by first | exact Nat.le_refl _ | (simp; done) | (simp; omega)) _) | (with_reducible refine Ext.stepN ?_ _) | (with_reducible refine Ext.stepD ?_) | (with_reducible refine Ext.stepA ?_ _)))))).mono ?_; rintro e u1 ⟨rfl, q1, rfl⟩)
    refine bodyPost_ret (v := .tuple #[.agg #[.int .i64 0, .slice none 0 0], .bool false]) (by simp [results, Try.results39, go_sem]) rfl ⟨none, 0, rfl, Own.nil _ _ _ _, ?_⟩
    (repeat (first | assumption | exact Ext.refl _ | (with_reducible refine Ext.stepS ?_ (by first | exact Nat.le_refl _ | (simp; done) | (simp; omega)) _) | (with_reducible refine Ext.stepN ?_ _) | (with_reducible refine Ext.stepD ?_) | (with_reducible refine Ext.stepA ?_ _)))
  cases hk : keyB key
  · rw [outFinR_2 hk] at hv
    simp only [Prod.mk.injEq] at hv
    obtain ⟨rfl, rfl⟩ := hv
    have HC := Lib.hid hc
    have HK := Lib.hid hk
    clear hc hk
    go_enter Try.func39, Try.ntmps39
    go_wp2_with (first | (go_at_call 71; refine (c_spec_l04Fingers w.heap.size S a zs.length cap zs _ HC.out (BX.out.on (by (repeat (first | assumption | exact Ext.refl _ | (with_reducible refine Ext.stepS ?_ (by first | exact Nat.le_refl _ | (simp; done) | (simp; omega)) _) | (with_reducible refine Ext.stepN ?_ _) | (with_reducible refine Ext.stepD ?_) | (with_reducible refine Ext.stepA ?_ _))))) hm (H.out.on (by (repeat (first | assumption | exact Ext.refl _ | (with_reducible refine Ext.stepS ?_ (by first | exact Nat.le_refl _ | (simp; done) | (simp; omega)) _) | (with_reducible refine Ext.stepN ?_ _) | (with_reducible refine Ext.stepD ?_) | (with_reducible refine Ext.stepA ?_ _)))))).mono ?_; rintro e u1 ⟨rfl, q1, rfl⟩) | (go_at_call 66; refine (c_spec_l02Key_q key _ HK.out).mono ?_; rintro e w' ⟨rfl, rfl⟩))
    refine bodyPost_ret (v := .tuple #[.agg #[.int .i64 0, .slice none 0 0], .bool false]) (by simp [results, Try.results39, go_sem]) rfl ⟨none, 0, rfl, Own.nil _ _ _ _, ?_⟩
    (repeat (first | assumption | exact Ext.refl _ | (with_reducible refine Ext.stepS ?_ (by first | exact Nat.le_refl _ | (simp; done) | (simp; omega)) _) | (with_reducible refine Ext.stepN ?_ _) | (with_reducible refine Ext.stepD ?_) | (with_reducible refine Ext.stepA ?_ _)))
  obtain ⟨m, ok⟩ := fg_ok hc
  obtain ⟨f, hf⟩ : ∃ f, fingN key S = f := ⟨_, rfl⟩
  obtain ⟨hs, hhs⟩ : ∃ h, houseN key S m = h := ⟨_, rfl⟩
  obtain ⟨o, ho⟩ : ∃ o, otherN (f : Nat) S m hs = o := ⟨_, rfl⟩
  have hfb := fingN_bd key S
  rw [hf] at hfb
  have hlm : hs < m := by rw [← hhs]; exact belowN_lt key _ m ok.m1
  have holm : o < m := by rw [← ho]; exact otherN_lt ok.pow hlm
  obtain ⟨r, hr⟩ : ∃ r, firstC zs (f : Nat) (houseC (two hs o)) 4 0 = r := ⟨_, rfl⟩
  have hsp : spotO S zs key m = r := by rw [← hr, ← ho, ← hhs, ← hf]; rfl
  have HSP := Lib.hid hsp
  have HV := Lib.hid hv
  have HF := Lib.hid hf
  have HHS := Lib.hid hhs
  have HO := Lib.hid ho
  have HR := Lib.hid hr
  have HKF := Lib.hid (show keyB (f : Nat) = true from keyB_true (by omega) (by omega))
  have HC := Lib.hid hc
  have HK := Lib.hid hk
  have OK := Lib.hid ok
  have HL := Lib.hid ok.len
  have hzl : 2 ≤ zs.length ∧ zs.length ≤ 256 := by have h1 := ok.len; have h2 := ok.m1; have h3 := ok.m128; omega
  have hm8 := ok.m128
  clear hc hk hv ok hf hhs ho hr hsp
  cases hrr : r
  · have hv := HV.out
    rw [outFinR_no HL.out (by rw [HSP.out, hrr])] at hv
    simp only [Prod.mk.injEq] at hv
    obtain ⟨rfl, rfl⟩ := hv
    subst hrr
    go_enter Try.func39, Try.ntmps39
    go_wp2_with (first | (go_at_call 71; refine (c_spec_l04Fingers w.heap.size S a zs.length cap zs _ HC.out (BX.out.on (by (repeat (first | assumption | exact Ext.refl _ | (with_reducible refine Ext.stepS ?_ (by first | exact Nat.le_refl _ | (simp; done) | (simp; omega)) _) | (with_reducible refine Ext.stepN ?_ _) | (with_reducible refine Ext.stepD ?_) | (with_reducible refine Ext.stepA ?_ _))))) hm (H.out.on (by (repeat (first | assumption | exact Ext.refl _ | (with_reducible refine Ext.stepS ?_ (by first | exact Nat.le_refl _ | (simp; done) | (simp; omega)) _) | (with_reducible refine Ext.stepN ?_ _) | (with_reducible refine Ext.stepD ?_) | (with_reducible refine Ext.stepA ?_ _)))))).mono ?_; rintro e u1 ⟨rfl, q1, rfl⟩) | (go_at_call 66; refine (c_spec_l02Key_q key _ HK.out).mono ?_; rintro e w' ⟨rfl, rfl⟩))
    refine (c_spec_l04OwnFingers w.heap.size S a zs.length cap zs _ (by omega) (by omega) (BX.out.on (by (repeat (first | assumption | exact Ext.refl _ | (with_reducible refine Ext.stepS ?_ (by first | exact Nat.le_refl _ | (simp; done) | (simp; omega)) _) | (with_reducible refine Ext.stepN ?_ _) | (with_reducible refine Ext.stepD ?_) | (with_reducible refine Ext.stepA ?_ _))))) (H.out.on (by (repeat (first | assumption | exact Ext.refl _ | (with_reducible refine Ext.stepS ?_ (by first | exact Nat.le_refl _ | (simp; done) | (simp; omega)) _) | (with_reducible refine Ext.stepN ?_ _) | (with_reducible refine Ext.stepD ?_) | (with_reducible refine Ext.stepA ?_ _)))))).mono ?_; rintro e wa ⟨g, c2, f2, rfl, hg, hc2, hrow, x'⟩
    have X1 := Lib.hid (show Ext w wa from Ext.trans (by (repeat (first | assumption | exact Ext.refl _ | (with_reducible refine Ext.stepS ?_ (by first | exact Nat.le_refl _ | (simp; done) | (simp; omega)) _) | (with_reducible refine Ext.stepN ?_ _) | (with_reducible refine Ext.stepD ?_) | (with_reducible refine Ext.stepA ?_ _)))) x')
    have BZ1 := Lib.hid (show Box wa (w.heap.size + 1) 41 _ from Box.on BZ.out (Ext.trans (by (repeat (first | assumption | exact Ext.refl _ | (with_reducible refine Ext.stepS ?_ (by first | exact Nat.le_refl _ | (simp; done) | (simp; omega)) _) | (with_reducible refine Ext.stepN ?_ _) | (with_reducible refine Ext.stepD ?_) | (with_reducible refine Ext.stepA ?_ _)))) x'))
    have HG := Lib.hid (show w.heap.size + 2 ≤ g from Nat.le_trans (by first | omega | (simp; done) | (simp; omega)) hg)
    have HGL := Lib.hid hrow.lt
    obtain ⟨w1, hw1⟩ : ∃ w1, wa.alloc (.cells #[.int .i64 S, .slice (some ⟨g, 0, none⟩) zs.length c2] 41) = w1 := ⟨_, rfl⟩
    have HRW := Lib.hid (show w1.rowIs g 2 c2 (rowT zs f2) by rw [← hw1]; exact rowIs_on hrow (Ext.alloc wa _))
    have BO := Lib.hid (show Box w1 wa.heap.size 41 #[.int .i64 S, .slice (some ⟨g, 0, none⟩) zs.length c2] by rw [← hw1]; exact Box.alloc wa _ _)
    have BZ2 := Lib.hid (show Box w1 (w.heap.size + 1) 41 _ by rw [← hw1]; exact BZ1.out.past _)
    have X2 := Lib.hid (show Ext w w1 by rw [← hw1]; exact X1.out.stepA _)
    have HSA := Lib.hid (show w.heap.size + 2 ≤ wa.heap.size by have := BZ1.out.lt; omega)
    have HSB := Lib.hid (show w1.heap.size = wa.heap.size + 1 by rw [← hw1]; simp)
    have HRD := Lib.hid (own_rowT (lo := w.heap.size + 2) hc2 HG.out HRW.out).reads
    clear hrow hg x'
    go_wp2_with fail
    try rw [hw1]
    clear hw1
    refine (c_spec_l04Finger wa.heap.size S (some ⟨g, 0, none⟩) zs.length c2 m key f hs _ HL.out hm8 OK.out.key HK.out HF.out HHS.out BO.out).mono ?_; rintro e u1 ⟨rfl, q2, rfl⟩
    go_wp2_with fail
    refine (c_spec_l04Find wa.heap.size S (some ⟨g, 0, none⟩) zs.length c2 m zs (f : Nat) hs o (f : Nat) _ HR.out HL.out hm8 OK.out.key HKF.out HO.out hlm holm (HRD.out.on (by (repeat (first | assumption | exact Ext.refl _ | (with_reducible refine Ext.stepS ?_ (by first | exact Nat.le_refl _ | (simp; done) | (simp; omega)) _) | (with_reducible refine Ext.stepN ?_ _) | (with_reducible refine Ext.stepD ?_) | (with_reducible refine Ext.stepA ?_ _))))) (BO.out.on (by (repeat (first | assumption | exact Ext.refl _ | (with_reducible refine Ext.stepS ?_ (by first | exact Nat.le_refl _ | (simp; done) | (simp; omega)) _) | (with_reducible refine Ext.stepN ?_ _) | (with_reducible refine Ext.stepD ?_) | (with_reducible refine Ext.stepA ?_ _)))))).mono ?_; rintro e w2 ⟨rfl, x3⟩
    have E12 := Lib.hid (show Ext w1 w2 from Ext.trans (by (repeat (first | assumption | exact Ext.refl _ | (with_reducible refine Ext.stepS ?_ (by first | exact Nat.le_refl _ | (simp; done) | (simp; omega)) _) | (with_reducible refine Ext.stepN ?_ _) | (with_reducible refine Ext.stepD ?_) | (with_reducible refine Ext.stepA ?_ _)))) x3)
    clear x3
    have HRW2 := Lib.hid (rowIs_on HRW.out E12.out)
    have HNB := Lib.hid (BO.out.on E12.out)
    have BZ3 := Lib.hid (BZ2.out.on E12.out)
    have HSC := Lib.hid E12.out.size
    have X3 := Lib.hid (X2.out.trans E12.out)
    have hnbz : w.heap.size + 1 ≠ wa.heap.size := by have := HSA.out; omega
    have hnbz' : wa.heap.size ≠ w.heap.size + 1 := fun h => hnbz h.symm
    have hq1 : wa.heap.size ≠ g := by have := HGL.out; omega
    have hq2 : g ≠ wa.heap.size := fun h => hq1 h.symm
    have hq3 : w.heap.size + 1 ≠ g := by have := HG.out; omega
    have hq4 : g ≠ w.heap.size + 1 := fun h => hq3 h.symm
    obtain ⟨n0, n1⟩ := HNB.out.two
    obtain ⟨z0, z1⟩ := BZ3.out.two
    obtain ⟨y0, y1, y2, y3⟩ := BZ3.out.free
    simp only [optI]
    go_wp2
    refine bodyPost_ret (v := .tuple #[.agg #[.int .i64 0, .slice none 0 0], .bool false]) (by simp [results, Try.results39, go_sem, z0, z1]) rfl ⟨none, 0, rfl, Own.nil _ _ _ _, ?_⟩
    have X3' := X3.out
    (repeat (first | assumption | exact Ext.refl _ | (with_reducible refine Ext.stepS ?_ (by first | exact Nat.le_refl _ | (simp; done) | (simp; omega)) _) | (with_reducible refine Ext.stepN ?_ _) | (with_reducible refine Ext.stepD ?_) | (with_reducible refine Ext.stepA ?_ _)))
  rename_i p
  have hv := HV.out
  rw [outFinR_y HC.out HK.out HL.out (by rw [HSP.out, hrr])] at hv
  simp only [Prod.mk.injEq] at hv
  obtain ⟨hv, rfl⟩ := hv
  have HV2 := Lib.hid hv
  have hpl : p < zs.length := spot_lt OK.out (by rw [HSP.out, hrr])
  subst hrr
  clear hv
  go_enter Try.func39, Try.ntmps39
  go_wp2_with (first | (go_at_call 71; refine (c_spec_l04Fingers w.heap.size S a zs.length cap zs _ HC.out (BX.out.on (by (repeat (first | assumption | exact Ext.refl _ | (with_reducible refine Ext.stepS ?_ (by first | exact Nat.le_refl _ | (simp; done) | (simp; omega)) _) | (with_reducible refine Ext.stepN ?_ _) | (with_reducible refine Ext.stepD ?_) | (with_reducible refine Ext.stepA ?_ _))))) hm (H.out.on (by (repeat (first | assumption | exact Ext.refl _ | (with_reducible refine Ext.stepS ?_ (by first | exact Nat.le_refl _ | (simp; done) | (simp; omega)) _) | (with_reducible refine Ext.stepN ?_ _) | (with_reducible refine Ext.stepD ?_) | (with_reducible refine Ext.stepA ?_ _)))))).mono ?_; rintro e u1 ⟨rfl, q1, rfl⟩) | (go_at_call 66; refine (c_spec_l02Key_q key _ HK.out).mono ?_; rintro e w' ⟨rfl, rfl⟩))
  refine (c_spec_l04OwnFingers w.heap.size S a zs.length cap zs _ (by omega) (by omega) (BX.out.on (by (repeat (first | assumption | exact Ext.refl _ | (with_reducible refine Ext.stepS ?_ (by first | exact Nat.le_refl _ | (simp; done) | (simp; omega)) _) | (with_reducible refine Ext.stepN ?_ _) | (with_reducible refine Ext.stepD ?_) | (with_reducible refine Ext.stepA ?_ _))))) (H.out.on (by (repeat (first | assumption | exact Ext.refl _ | (with_reducible refine Ext.stepS ?_ (by first | exact Nat.le_refl _ | (simp; done) | (simp; omega)) _) | (with_reducible refine Ext.stepN ?_ _) | (with_reducible refine Ext.stepD ?_) | (with_reducible refine Ext.stepA ?_ _)))))).mono ?_; rintro e wa ⟨g, c2, f2, rfl, hg, hc2, hrow, x'⟩
  have X1 := Lib.hid (show Ext w wa from Ext.trans (by (repeat (first | assumption | exact Ext.refl _ | (with_reducible refine Ext.stepS ?_ (by first | exact Nat.le_refl _ | (simp; done) | (simp; omega)) _) | (with_reducible refine Ext.stepN ?_ _) | (with_reducible refine Ext.stepD ?_) | (with_reducible refine Ext.stepA ?_ _)))) x')
  have BZ1 := Lib.hid (show Box wa (w.heap.size + 1) 41 _ from Box.on BZ.out (Ext.trans (by (repeat (first | assumption | exact Ext.refl _ | (with_reducible refine Ext.stepS ?_ (by first | exact Nat.le_refl _ | (simp; done) | (simp; omega)) _) | (with_reducible refine Ext.stepN ?_ _) | (with_reducible refine Ext.stepD ?_) | (with_reducible refine Ext.stepA ?_ _)))) x'))
  have HG := Lib.hid (show w.heap.size + 2 ≤ g from Nat.le_trans (by first | omega | (simp; done) | (simp; omega)) hg)
  have HGL := Lib.hid hrow.lt
  obtain ⟨w1, hw1⟩ : ∃ w1, wa.alloc (.cells #[.int .i64 S, .slice (some ⟨g, 0, none⟩) zs.length c2] 41) = w1 := ⟨_, rfl⟩
  have HRW := Lib.hid (show w1.rowIs g 2 c2 (rowT zs f2) by rw [← hw1]; exact rowIs_on hrow (Ext.alloc wa _))
  have BO := Lib.hid (show Box w1 wa.heap.size 41 #[.int .i64 S, .slice (some ⟨g, 0, none⟩) zs.length c2] by rw [← hw1]; exact Box.alloc wa _ _)
  have BZ2 := Lib.hid (show Box w1 (w.heap.size + 1) 41 _ by rw [← hw1]; exact BZ1.out.past _)
  have X2 := Lib.hid (show Ext w w1 by rw [← hw1]; exact X1.out.stepA _)
  have HSA := Lib.hid (show w.heap.size + 2 ≤ wa.heap.size by have := BZ1.out.lt; omega)
  have HSB := Lib.hid (show w1.heap.size = wa.heap.size + 1 by rw [← hw1]; simp)
  have HRD := Lib.hid (own_rowT (lo := w.heap.size + 2) hc2 HG.out HRW.out).reads
  clear hrow hg x'
  go_wp2_with fail
  try rw [hw1]
  clear hw1
  refine (c_spec_l04Finger wa.heap.size S (some ⟨g, 0, none⟩) zs.length c2 m key f hs _ HL.out hm8 OK.out.key HK.out HF.out HHS.out BO.out).mono ?_; rintro e u1 ⟨rfl, q2, rfl⟩
  go_wp2_with fail
  refine (c_spec_l04Find wa.heap.size S (some ⟨g, 0, none⟩) zs.length c2 m zs (f : Nat) hs o (f : Nat) _ HR.out HL.out hm8 OK.out.key HKF.out HO.out hlm holm (HRD.out.on (by (repeat (first | assumption | exact Ext.refl _ | (with_reducible refine Ext.stepS ?_ (by first | exact Nat.le_refl _ | (simp; done) | (simp; omega)) _) | (with_reducible refine Ext.stepN ?_ _) | (with_reducible refine Ext.stepD ?_) | (with_reducible refine Ext.stepA ?_ _))))) (BO.out.on (by (repeat (first | assumption | exact Ext.refl _ | (with_reducible refine Ext.stepS ?_ (by first | exact Nat.le_refl _ | (simp; done) | (simp; omega)) _) | (with_reducible refine Ext.stepN ?_ _) | (with_reducible refine Ext.stepD ?_) | (with_reducible refine Ext.stepA ?_ _)))))).mono ?_; rintro e w2 ⟨rfl, x3⟩
  have E12 := Lib.hid (show Ext w1 w2 from Ext.trans (by (repeat (first | assumption | exact Ext.refl _ | (with_reducible refine Ext.stepS ?_ (by first | exact Nat.le_refl _ | (simp; done) | (simp; omega)) _) | (with_reducible refine Ext.stepN ?_ _) | (with_reducible refine Ext.stepD ?_) | (with_reducible refine Ext.stepA ?_ _)))) x3)
  clear x3
  have HRW2 := Lib.hid (rowIs_on HRW.out E12.out)
  have HNB := Lib.hid (BO.out.on E12.out)
  have BZ3 := Lib.hid (BZ2.out.on E12.out)
  have HSC := Lib.hid E12.out.size
  have X3 := Lib.hid (X2.out.trans E12.out)
  have hnbz : w.heap.size + 1 ≠ wa.heap.size := by have := HSA.out; omega
  have hnbz' : wa.heap.size ≠ w.heap.size + 1 := fun h => hnbz h.symm
  have hq1 : wa.heap.size ≠ g := by have := HGL.out; omega
  have hq2 : g ≠ wa.heap.size := fun h => hq1 h.symm
  have hq3 : w.heap.size + 1 ≠ g := by have := HG.out; omega
  have hq4 : g ≠ w.heap.size + 1 := fun h => hq3 h.symm
  obtain ⟨n0, n1⟩ := HNB.out.two
  obtain ⟨z0, z1⟩ := BZ3.out.two
  obtain ⟨y0, y1, y2, y3⟩ := BZ3.out.free
  simp only [optI]
  have hp1 : ¬ ((p : Int) < 0) := by omega
  have hp2 : decide ((p : Int) < 0) = false := decide_eq_false hp1
  go_upto_region 6 with fail
  go_cut [29] (fun s29 wx => s29 = .bool false ∧ wx = w2)
  case first =>
    clear n0 n1 z0 z1 y0 y1 y2 y3
    go_wp2_with fail
    go_meet
    exact ⟨rfl, rfl⟩
  case rest =>
    obtain ⟨rfl, hwc⟩ := hcut
    subst hwc
    clear hp1 hp2
    have hgc := HRW2.out.cell (i := p) (by omega)
    rw [rowT_at hpl] at hgc
    have hgf := HRW2.out.frozen p
    have hpl' : (p : Int) < (zs.length : Int) := by omega
    have hp0 : (0 : Int) ≤ (p : Int) := by omega
    have HS := Lib.hid (show (wc.setCell ⟨g, p, none⟩ (.int .i64 0)).rowIs g 2 c2 (rowT (zs.set p 0) f2) from rowT_set HRW2.out (k := p) hpl 0)
    have HNL := Lib.hid (show (zs.set p 0).length = zs.length from List.length_set)
    have HVV := Lib.hid (show V = ⟨S, zs.set p 0⟩ from HV2.out.symm)
    have HON := Lib.hid (own_rowT (lo := w.heap.size + 2) (by rw [HNL.out]; exact hc2) HG.out HS.out)
    have HTT := Lib.hid (Touch.setCell (lo := g) (hi := g + 1) wc (a := ⟨g, p, none⟩) (Nat.le_refl _) (Nat.lt_succ_self _) (.int .i64 0))
    have HEW := Lib.hid (show Ext w (wc.setCell ⟨g, p, none⟩ (.int .i64 0)) from Touch.ext X3.out HTT.out (by have := HG.out; omega))
    go_wp2_with fail
    try go_region
    all_goals
      go_wp2
      refine bodyPost_ret (v := .tuple #[.agg #[.int .i64 S, .slice (some ⟨g, 0, none⟩) zs.length c2], .bool true]) (by simp [results, Try.results39, go_sem, z0, z1]) rfl ⟨some ⟨g, 0, none⟩, c2, by rw [HVV.out, HNL.out], ?_, ?_⟩
      · rw [HVV.out]
        refine own_touch HON.out (lo' := w.heap.size + 1) (hi' := w.heap.size + 2) ?_ (by omega) (by have := HSB.out; have := HSA.out; have := HSC.out; first | omega | (simp; done) | (simp; omega)) (Nat.le_refl _)
        first | (refine Touch.trans ?_ (Touch.of_ext (Ext.drew _) _ _); (repeat (first | assumption | exact Touch.refl _ _ _ | (with_reducible refine Touch.stepS ?_ (by first | exact Nat.le_refl _ | (simp; done) | (simp; omega)) (by first | (simp; done) | (simp; omega)) _) | (with_reducible refine Touch.stepN ?_ _) | (with_reducible refine Touch.stepA ?_ _))); done) | (repeat (first | assumption | exact Touch.refl _ _ _ | (with_reducible refine Touch.stepS ?_ (by first | exact Nat.le_refl _ | (simp; done) | (simp; omega)) (by first | (simp; done) | (simp; omega)) _) | (with_reducible refine Touch.stepN ?_ _) | (with_reducible refine Touch.stepA ?_ _)))
      · have HEW' := HEW.out
        (repeat (first | assumption | exact Ext.refl _ | (with_reducible refine Ext.stepS ?_ (by first | exact Nat.le_refl _ | (simp; done) | (simp; omega)) _) | (with_reducible refine Ext.stepN ?_ _) | (with_reducible refine Ext.stepD ?_) | (with_reducible refine Ext.stepA ?_ _)))
end Go.Proofs.Ytfolflkbpdbkcab
