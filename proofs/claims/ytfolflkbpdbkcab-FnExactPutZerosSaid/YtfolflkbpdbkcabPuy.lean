/- PutZeros: the other side. -/
import Derived.Test.YtfolflkbpdbkcabPuz
import Derived.StillTailTactics
namespace Go.Proofs.Ytfolflkbpdbkcab
open Go.ChangeShapes Go.WideShapes Go.ChangeAt Go.RowKit
set_option linter.unusedVariables false
theorem c_spec_l02Hash_v (key salt : Int) (y : Nat) (w : World) (hk : keyB key = true) (hs : keyB salt = true) (hy : hashN key salt = y) : Calls Try.prog 87 #[.int .i64 key, .int .i64 salt] w fun e w' => e = .returned (.int .i64 (y : Nat)) ∧ w = w' := by
  subst hy; exact c_spec_l02Hash key salt w hk hs
set_option maxRecDepth 100000 in
set_option maxHeartbeats 4000000 in
theorem c_spec_PutZeros (S : Int) (a : Option Addr) (n cap : Nat) (zs : List Int) (key : Int) (w : World) {V : FV} {v : Bool} (hv : putZR S zs key = (V, v)) (hm : n ≤ maxLen) (h : Reads w a n (ints zs)) :
    Calls Try.prog 46 #[.agg #[.int .i64 S, .slice a n cap], .int .i64 key] w (RetKFB 2 V v w) := by
  have hn := h.int.1
  subst hn
  have H := Lib.hid h
  have BX := Lib.hid ((Box.alloc w #[.int .i64 S, .slice a zs.length cap] 54).past (.cells #[.int .i64 0, .slice none 0 0] 54))
  have BZ := Lib.hid (Box.alloc_at (w.alloc (.cells #[.int .i64 S, .slice a zs.length cap] 54)) #[.int .i64 0, .slice none 0 0] 54 (b := w.heap.size + 1) (by simp))
  clear h
  cases hc : zerB S zs
  · rw [putZR_1 hc] at hv
    simp only [Prod.mk.injEq] at hv
    obtain ⟨rfl, rfl⟩ := hv
    have HC := Lib.hid hc
    clear hc
    go_enter Try.func46, Try.ntmps46
    go_wp2_with (go_at_call 82; refine (c_spec_l04Zeros w.heap.size S a zs.length cap zs _ HC.out (BX.out.on (by (repeat (first | assumption | exact Ext.refl _ | (with_reducible refine Ext.stepS ?_ (by first | exact Nat.le_refl _ | (simp; done) | (simp; omega)) _) | (with_reducible refine Ext.stepN ?_ _) | (with_reducible refine Ext.stepD ?_) | (with_reducible refine Ext.stepA ?_ _))))) hm (H.out.on (by (repeat (first | assumption | exact Ext.refl _ | (with_reducible refine Ext.stepS ?_ (by first | exact Nat.le_refl _ | (simp; done) | (simp; omega)) _) | (with_reducible refine Ext.stepN ?_ _) | (with_reducible refine Ext.stepD ?_) | (with_reducible refine Ext.stepA ?_ _)))))).mono ?_; rintro e u1 ⟨rfl, q1, rfl⟩)
    refine bodyPost_ret (v := .tuple #[.agg #[.int .i64 0, .slice none 0 0], .bool false]) (by simp [results, Try.results46, go_sem]) rfl ⟨none, 0, rfl, Own.nil _ _ _ _, ?_⟩
    (repeat (first | assumption | exact Ext.refl _ | (with_reducible refine Ext.stepS ?_ (by first | exact Nat.le_refl _ | (simp; done) | (simp; omega)) _) | (with_reducible refine Ext.stepN ?_ _) | (with_reducible refine Ext.stepD ?_) | (with_reducible refine Ext.stepA ?_ _)))
  cases hk : keyB key
  · rw [putZR_2 hk] at hv
    simp only [Prod.mk.injEq] at hv
    obtain ⟨rfl, rfl⟩ := hv
    have HC := Lib.hid hc
    have HK := Lib.hid hk
    clear hc hk
    go_enter Try.func46, Try.ntmps46
    go_wp2_with (first | (go_at_call 82; refine (c_spec_l04Zeros w.heap.size S a zs.length cap zs _ HC.out (BX.out.on (by (repeat (first | assumption | exact Ext.refl _ | (with_reducible refine Ext.stepS ?_ (by first | exact Nat.le_refl _ | (simp; done) | (simp; omega)) _) | (with_reducible refine Ext.stepN ?_ _) | (with_reducible refine Ext.stepD ?_) | (with_reducible refine Ext.stepA ?_ _))))) hm (H.out.on (by (repeat (first | assumption | exact Ext.refl _ | (with_reducible refine Ext.stepS ?_ (by first | exact Nat.le_refl _ | (simp; done) | (simp; omega)) _) | (with_reducible refine Ext.stepN ?_ _) | (with_reducible refine Ext.stepD ?_) | (with_reducible refine Ext.stepA ?_ _)))))).mono ?_; rintro e u1 ⟨rfl, q1, rfl⟩) | (go_at_call 66; refine (c_spec_l02Key_q key _ HK.out).mono ?_; rintro e w' ⟨rfl, rfl⟩))
    refine bodyPost_ret (v := .tuple #[.agg #[.int .i64 0, .slice none 0 0], .bool false]) (by simp [results, Try.results46, go_sem]) rfl ⟨none, 0, rfl, Own.nil _ _ _ _, ?_⟩
    (repeat (first | assumption | exact Ext.refl _ | (with_reducible refine Ext.stepS ?_ (by first | exact Nat.le_refl _ | (simp; done) | (simp; omega)) _) | (with_reducible refine Ext.stepN ?_ _) | (with_reducible refine Ext.stepD ?_) | (with_reducible refine Ext.stepA ?_ _)))
  have hzl := zer_len hc
  obtain ⟨hsk, _, hup⟩ := cellsUp_yes hc
  obtain ⟨p, hp⟩ : ∃ p, belowN key S zs.length = p := ⟨_, rfl⟩
  have hpl : p < zs.length := by rw [← hp]; exact belowN_lt key S zs.length (by omega)
  obtain ⟨x, hx⟩ : ∃ x, zs[p]?.getD 0 = x := ⟨_, rfl⟩
  have hxb := upB_at hup hpl
  rw [hx] at hxb
  obtain ⟨s1, hs1⟩ : ∃ s1, saltZ S 1 = s1 := ⟨_, rfl⟩
  obtain ⟨y, hy⟩ : ∃ y, hashN key s1 = y := ⟨_, rfl⟩
  have hyb : y < 4294967296 := by rw [← hy]; exact hashN_lt key s1
  obtain ⟨r, hr⟩ : ∃ r, runZ y = r := ⟨_, rfl⟩
  have hrb := runZ_bd hyb
  rw [hr] at hrb
  obtain ⟨z, hz⟩ : ∃ z, max x (1 + r) = z := ⟨_, rfl⟩
  rw [putZR_y hc hk hp hx (by rw [hs1, hy, hr]) hz] at hv
  simp only [Prod.mk.injEq] at hv
  obtain ⟨hv, rfl⟩ := hv
  have HV := Lib.hid hv
  have HC := Lib.hid hc
  have HK := Lib.hid hk
  have HSK := Lib.hid hsk
  have HP := Lib.hid hp
  have HX := Lib.hid hx
  have HS1 := Lib.hid hs1
  have HS1K := Lib.hid (show keyB s1 = true by rw [← hs1]; exact saltZ_key S 1)
  have HY := Lib.hid hy
  have HR := Lib.hid hr
  have HZ := Lib.hid hz
  clear hc hk hv hsk hup hp hx hs1 hy hr hz
  go_enter Try.func46, Try.ntmps46
  go_wp2_with (first | (go_at_call 82; refine (c_spec_l04Zeros w.heap.size S a zs.length cap zs _ HC.out (BX.out.on (by (repeat (first | assumption | exact Ext.refl _ | (with_reducible refine Ext.stepS ?_ (by first | exact Nat.le_refl _ | (simp; done) | (simp; omega)) _) | (with_reducible refine Ext.stepN ?_ _) | (with_reducible refine Ext.stepD ?_) | (with_reducible refine Ext.stepA ?_ _))))) hm (H.out.on (by (repeat (first | assumption | exact Ext.refl _ | (with_reducible refine Ext.stepS ?_ (by first | exact Nat.le_refl _ | (simp; done) | (simp; omega)) _) | (with_reducible refine Ext.stepN ?_ _) | (with_reducible refine Ext.stepD ?_) | (with_reducible refine Ext.stepA ?_ _)))))).mono ?_; rintro e u1 ⟨rfl, q1, rfl⟩) | (go_at_call 66; refine (c_spec_l02Key_q key _ HK.out).mono ?_; rintro e w' ⟨rfl, rfl⟩))
  refine (c_spec_l04OwnZeros w.heap.size S a zs.length cap zs _ (by omega) (by omega) (BX.out.on (by (repeat (first | assumption | exact Ext.refl _ | (with_reducible refine Ext.stepS ?_ (by first | exact Nat.le_refl _ | (simp; done) | (simp; omega)) _) | (with_reducible refine Ext.stepN ?_ _) | (with_reducible refine Ext.stepD ?_) | (with_reducible refine Ext.stepA ?_ _))))) (H.out.on (by (repeat (first | assumption | exact Ext.refl _ | (with_reducible refine Ext.stepS ?_ (by first | exact Nat.le_refl _ | (simp; done) | (simp; omega)) _) | (with_reducible refine Ext.stepN ?_ _) | (with_reducible refine Ext.stepD ?_) | (with_reducible refine Ext.stepA ?_ _)))))).mono ?_; rintro e wa ⟨g, c2, f2, rfl, hg, hc2, hrow, x'⟩
  have X1 := Lib.hid (show Ext w wa from Ext.trans (by (repeat (first | assumption | exact Ext.refl _ | (with_reducible refine Ext.stepS ?_ (by first | exact Nat.le_refl _ | (simp; done) | (simp; omega)) _) | (with_reducible refine Ext.stepN ?_ _) | (with_reducible refine Ext.stepD ?_) | (with_reducible refine Ext.stepA ?_ _)))) x')
  have BZ1 := Lib.hid (show Box wa (w.heap.size + 1) 54 _ from Box.on BZ.out (Ext.trans (by (repeat (first | assumption | exact Ext.refl _ | (with_reducible refine Ext.stepS ?_ (by first | exact Nat.le_refl _ | (simp; done) | (simp; omega)) _) | (with_reducible refine Ext.stepN ?_ _) | (with_reducible refine Ext.stepD ?_) | (with_reducible refine Ext.stepA ?_ _)))) x'))
  have BX1 := Lib.hid (show Box wa w.heap.size 54 _ from Box.on BX.out (Ext.trans (by (repeat (first | assumption | exact Ext.refl _ | (with_reducible refine Ext.stepS ?_ (by first | exact Nat.le_refl _ | (simp; done) | (simp; omega)) _) | (with_reducible refine Ext.stepN ?_ _) | (with_reducible refine Ext.stepD ?_) | (with_reducible refine Ext.stepA ?_ _)))) x'))
  have HG := Lib.hid (show w.heap.size + 2 ≤ g from Nat.le_trans (by first | omega | (simp; done) | (simp; omega)) hg)
  have HGL := Lib.hid hrow.lt
  obtain ⟨w1, hw1⟩ : ∃ w1, wa.alloc (.cells #[.int .i64 S, .slice (some ⟨g, 0, none⟩) zs.length c2] 54) = w1 := ⟨_, rfl⟩
  have HRW := Lib.hid (show w1.rowIs g 2 c2 (rowT zs f2) by rw [← hw1]; exact rowIs_on hrow (Ext.alloc wa _))
  have BO := Lib.hid (show Box w1 wa.heap.size 54 #[.int .i64 S, .slice (some ⟨g, 0, none⟩) zs.length c2] by rw [← hw1]; exact Box.alloc wa _ _)
  have BZ2 := Lib.hid (show Box w1 (w.heap.size + 1) 54 _ by rw [← hw1]; exact BZ1.out.past _)
  have BX2 := Lib.hid (show Box w1 w.heap.size 54 _ by rw [← hw1]; exact BX1.out.past _)
  have X2 := Lib.hid (show Ext w w1 by rw [← hw1]; exact X1.out.stepA _)
  have HSA := Lib.hid (show w.heap.size + 2 ≤ wa.heap.size by have := BZ1.out.lt; omega)
  have HSB := Lib.hid (show w1.heap.size = wa.heap.size + 1 by rw [← hw1]; simp)
  clear hrow hg x'
  obtain ⟨b0, b1⟩ := BX2.out.two
  obtain ⟨n0, n1⟩ := BO.out.two
  clear BX BZ
  go_wp2_with fail
  try rw [hw1]
  clear hw1
  refine (c_spec_l02Below_e key S zs.length p _ HK.out HSK.out (by omega) HP.out).mono ?_; rintro e w' ⟨rfl, rfl⟩
  go_wp2_with fail
  have hgc := HRW.out.cell (i := p) (by omega)
  rw [rowT_at hpl, HX.out] at hgc
  have hgf := HRW.out.frozen p
  have hpl' : (p : Int) < (zs.length : Int) := by omega
  have hp0 : (0 : Int) ≤ (p : Int) := by omega
  refine wp_region_still_tail 16 (by kernel_rfl) (by kernel_rfl) ?_
  simp only [List.take_succ_cons, List.take_zero, List.drop_succ_cons, List.drop_zero]
  change wpStill _ _ w1.drew _ _ _
  repeat still_step
  still_call (c_spec_l04Salt_v S 1 s1 _ HSK.out (by decide) HS1.out)
  repeat still_step
  still_call ((c_spec_l02Hash_v key s1 y _ HK.out HS1K.out HY.out).mono (by rintro e w' ⟨rfl, rfl⟩; exact ⟨rfl, rfl⟩))
  repeat still_step
  still_call ((c_spec_l02Zeros_v y r _ hyb HR.out).mono (by rintro e w' ⟨rfl, rfl⟩; exact ⟨rfl, rfl⟩))
  repeat still_step
  simp only [show IntKind.i64.wrap (1 + r) = 1 + r by obtain ⟨q1, q2⟩ := hrb; simp [IntKind.wrap, IntKind.bits, IntKind.signed]; omega]
  still_call ((c_spec_l00Max_w x (1 + r) z _ HZ.out).mono (by rintro e w' ⟨rfl, rfl⟩; exact ⟨rfl, rfl⟩))
  repeat still_step
  try refine wpStill_nil ?_
  obtain ⟨w2, hw2⟩ : ∃ w2, w1.drew = w2 := ⟨_, rfl⟩
  have E12 := Lib.hid (show Ext w1 w2 by rw [← hw2]; exact Ext.drew _)
  change wpList _ _ _ _ _ w1.drew
  rw [hw2]
  clear hw2 hgc hgf b0 b1 n0 n1
  have HRW2 := Lib.hid (rowIs_on HRW.out E12.out)
  have HNB := Lib.hid (BO.out.on E12.out)
  have BZ3 := Lib.hid (BZ2.out.on E12.out)
  have HSC := Lib.hid E12.out.size
  have X3 := Lib.hid (X2.out.trans E12.out)
  have hgc := HRW2.out.cell (i := p) (by omega)
  rw [rowT_at hpl, HX.out] at hgc
  have hgf := HRW2.out.frozen p
  have HS := Lib.hid (show (w2.setCell ⟨g, p, none⟩ (.int .i64 z)).rowIs g 2 c2 (rowT (zs.set p z) f2) from rowT_set HRW2.out (k := p) hpl z)
  have HNL := Lib.hid (show (zs.set p z).length = zs.length from List.length_set)
  have HVV := Lib.hid (show V = ⟨S, zs.set p z⟩ from HV.out.symm)
  have HON := Lib.hid (own_rowT (lo := w.heap.size + 2) (by rw [HNL.out]; exact hc2) HG.out HS.out)
  have HTT := Lib.hid (Touch.setCell (lo := g) (hi := g + 1) w2 (a := ⟨g, p, none⟩) (Nat.le_refl _) (Nat.lt_succ_self _) (.int .i64 z))
  have HEW := Lib.hid (show Ext w (w2.setCell ⟨g, p, none⟩ (.int .i64 z)) from Touch.ext X3.out HTT.out (by have := HG.out; omega))
  have hnbz : w.heap.size + 1 ≠ wa.heap.size := by have := HSA.out; omega
  have hnbz' : wa.heap.size ≠ w.heap.size + 1 := fun h => hnbz h.symm
  have hq1 : wa.heap.size ≠ g := by have := HGL.out; omega
  have hq2 : g ≠ wa.heap.size := fun h => hq1 h.symm
  have hq3 : w.heap.size + 1 ≠ g := by have := HG.out; omega
  have hq4 : g ≠ w.heap.size + 1 := fun h => hq3 h.symm
  obtain ⟨n0, n1⟩ := HNB.out.two
  obtain ⟨z0, z1⟩ := BZ3.out.two
  obtain ⟨y0, y1, y2, y3⟩ := BZ3.out.free
  go_wp2
  refine bodyPost_ret (v := .tuple #[.agg #[.int .i64 S, .slice (some ⟨g, 0, none⟩) zs.length c2], .bool true]) (by simp [results, Try.results46, go_sem, z0, z1]) rfl ⟨some ⟨g, 0, none⟩, c2, by rw [HVV.out, HNL.out], ?_, ?_⟩
  · rw [HVV.out]
    refine own_touch HON.out (lo' := w.heap.size + 1) (hi' := w.heap.size + 2) ?_ (by omega) (by have := HSB.out; have := HSA.out; have := HSC.out; first | omega | (simp; done) | (simp; omega)) (Nat.le_refl _)
    (repeat (first | assumption | exact Touch.refl _ _ _ | (with_reducible refine Touch.stepS ?_ (by first | exact Nat.le_refl _ | (simp; done) | (simp; omega)) (by first | (simp; done) | (simp; omega)) _) | (with_reducible refine Touch.stepN ?_ _) | (with_reducible refine Touch.stepA ?_ _)))
  · have HEW' := HEW.out
    (repeat (first | assumption | exact Ext.refl _ | (with_reducible refine Ext.stepS ?_ (by first | exact Nat.le_refl _ | (simp; done) | (simp; omega)) _) | (with_reducible refine Ext.stepN ?_ _) | (with_reducible refine Ext.stepD ?_) | (with_reducible refine Ext.stepA ?_ _)))
end Go.Proofs.Ytfolflkbpdbkcab
