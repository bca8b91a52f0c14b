/- OutFinger: both sides. -/
import Derived.Test.YtfolflkbpdbkcabFij
import Derived.Deep.DeepCutAuto
import Derived.Deep.LoopGhost
import Derived.Deep.RegionHeld3
import Derived.Deep.AppendLies
namespace Go.Proofs.Ytfolflkbpdbkcab
open Go.ChangeShapes Go.WideShapes Go.ChangeAt Go.RowKit
set_option linter.unusedVariables false
set_option maxHeartbeats 4000000 in
theorem c_impl_OutFinger (S : Int) (a : Option Addr) (n cap : Nat) (zs : List Int) (key : Int) (w : World) {V : FV} {v : Bool} (hv : outFinR S zs key = (V, v)) (hm : n ≤ maxLen) (h : Reads w a n (ints zs)) :
    Calls Try.prog 40 #[.agg #[.int .i64 S, .slice a n cap], .int .i64 key] w (RetKFB 2 V v w) := by
  have hn := h.int.1
  subst hn
  have H := Lib.hid h
  have BX := Lib.hid ((Box.alloc w #[.int .i64 S, .slice a zs.length cap] 41).past (.cells #[.int .i64 0, .slice none 0 0] 41))
  have BZ := Lib.hid (Box.alloc_at (w.alloc (.cells #[.int .i64 S, .slice a zs.length cap] 41)) #[.int .i64 0, .slice none 0 0] 41 (b := w.heap.size + 1) (by simp))
  clear h
  cases hc : fgB S zs
  · rw [outFinR_1 hc] at hv
    simp only [Prod.mk.injEq] at hv
    obtain ⟨rfl, rfl⟩ := hv
    have HC := Lib.hid hc
    clear hc
    go_enter Try.func40, Try.ntmps40
    go_wp2_with fail
    refine (c_impl_ValidFingers S a zs.length cap zs _ HC.out hm (H.out.on (by (repeat (first | assumption | exact Ext.refl _ | (with_reducible refine Ext.stepS ?_ (by first | exact Nat.le_refl _ | (simp; done) | (simp; omega)) _) | (with_reducible refine Ext.stepN ?_ _) | (with_reducible refine Ext.stepD ?_) | (with_reducible refine Ext.stepA ?_ _)))))).mono ?_; rintro e u1 ⟨rfl, x1⟩
    have X : Ext w u1 := Ext.trans (by (repeat (first | assumption | exact Ext.refl _ | (with_reducible refine Ext.stepS ?_ (by first | exact Nat.le_refl _ | (simp; done) | (simp; omega)) _) | (with_reducible refine Ext.stepN ?_ _) | (with_reducible refine Ext.stepD ?_) | (with_reducible refine Ext.stepA ?_ _)))) x1
    obtain ⟨z0, z1⟩ := (BZ.out.on x1).two
    obtain ⟨f0, f1, f2, f3⟩ := (BZ.out.on x1).free
    clear x1
    go_wp2
    refine bodyPost_ret (v := .tuple #[.agg #[.int .i64 0, .slice none 0 0], .bool false]) (by simp [results, Try.results40, go_sem, z0, z1]) rfl ⟨none, 0, rfl, Own.nil _ _ _ _, ?_⟩
    (repeat (first | assumption | exact Ext.refl _ | (with_reducible refine Ext.stepS ?_ (by first | exact Nat.le_refl _ | (simp; done) | (simp; omega)) _) | (with_reducible refine Ext.stepN ?_ _) | (with_reducible refine Ext.stepD ?_) | (with_reducible refine Ext.stepA ?_ _)))
  cases hk : keyB key
  · rw [outFinR_2 hk] at hv
    simp only [Prod.mk.injEq] at hv
    obtain ⟨rfl, rfl⟩ := hv
    have HC := Lib.hid hc
    have HK := Lib.hid hk
    clear hc hk
    go_enter Try.func40, Try.ntmps40
    go_wp2_with fail
    refine (c_impl_ValidFingers S a zs.length cap zs _ HC.out hm (H.out.on (by (repeat (first | assumption | exact Ext.refl _ | (with_reducible refine Ext.stepS ?_ (by first | exact Nat.le_refl _ | (simp; done) | (simp; omega)) _) | (with_reducible refine Ext.stepN ?_ _) | (with_reducible refine Ext.stepD ?_) | (with_reducible refine Ext.stepA ?_ _)))))).mono ?_; rintro e u1 ⟨rfl, x1⟩
    have X : Ext w u1 := Ext.trans (by (repeat (first | assumption | exact Ext.refl _ | (with_reducible refine Ext.stepS ?_ (by first | exact Nat.le_refl _ | (simp; done) | (simp; omega)) _) | (with_reducible refine Ext.stepN ?_ _) | (with_reducible refine Ext.stepD ?_) | (with_reducible refine Ext.stepA ?_ _)))) x1
    obtain ⟨z0, z1⟩ := (BZ.out.on x1).two
    obtain ⟨f0, f1, f2, f3⟩ := (BZ.out.on x1).free
    clear x1
    go_wp2_with (go_at_call 69; refine (c_impl_IsKey_q key _ HK.out).mono ?_; rintro e w' ⟨rfl, rfl⟩)
    refine bodyPost_ret (v := .tuple #[.agg #[.int .i64 0, .slice none 0 0], .bool false]) (by simp [results, Try.results40, go_sem, z0, z1]) rfl ⟨none, 0, rfl, Own.nil _ _ _ _, ?_⟩
    (repeat (first | assumption | exact Ext.refl _ | (with_reducible refine Ext.stepS ?_ (by first | exact Nat.le_refl _ | (simp; done) | (simp; omega)) _) | (with_reducible refine Ext.stepN ?_ _) | (with_reducible refine Ext.stepD ?_) | (with_reducible refine Ext.stepA ?_ _)))
  obtain ⟨m, ok⟩ := fg_ok hc
  cases hsp : spotO S zs key m
  · rw [outFinR_no ok.len hsp] at hv
    simp only [Prod.mk.injEq] at hv
    obtain ⟨rfl, rfl⟩ := hv
    have HC := Lib.hid hc
    have HK := Lib.hid hk
    have OK := Lib.hid ok
    have HSP := Lib.hid hsp
    clear hc hk ok hsp
    go_enter Try.func40, Try.ntmps40
    go_wp2_with fail
    refine (c_impl_ValidFingers S a zs.length cap zs _ HC.out hm (H.out.on (by (repeat (first | assumption | exact Ext.refl _ | (with_reducible refine Ext.stepS ?_ (by first | exact Nat.le_refl _ | (simp; done) | (simp; omega)) _) | (with_reducible refine Ext.stepN ?_ _) | (with_reducible refine Ext.stepD ?_) | (with_reducible refine Ext.stepA ?_ _)))))).mono ?_; rintro e u1 ⟨rfl, x1⟩
    have X1 := Lib.hid (show Ext w u1 from Ext.trans (by (repeat (first | assumption | exact Ext.refl _ | (with_reducible refine Ext.stepS ?_ (by first | exact Nat.le_refl _ | (simp; done) | (simp; omega)) _) | (with_reducible refine Ext.stepN ?_ _) | (with_reducible refine Ext.stepD ?_) | (with_reducible refine Ext.stepA ?_ _)))) x1)
    have BZ1 := Lib.hid (BZ.out.on x1)
    obtain ⟨b0, b1⟩ := (BX.out.on x1).two
    clear x1
    go_wp2_with (go_at_call 69; refine (c_impl_IsKey_q key _ HK.out).mono ?_; rintro e w' ⟨rfl, rfl⟩)
    refine (c_impl_cellOfKey S a zs.length cap m zs key _ HSP.out OK.out HK.out (H.out.on X1.out)).mono ?_; rintro e u2 ⟨rfl, x2⟩
    have X : Ext w u2 := X1.out.trans x2
    obtain ⟨z0, z1⟩ := (BZ1.out.on x2).two
    obtain ⟨f0, f1, f2, f3⟩ := (BZ1.out.on x2).free
    clear x2 b0 b1
    simp only [optI, Option.isSome_none]
    go_wp2
    refine bodyPost_ret (v := .tuple #[.agg #[.int .i64 0, .slice none 0 0], .bool false]) (by simp [results, Try.results40, go_sem, z0, z1]) rfl ⟨none, 0, rfl, Own.nil _ _ _ _, ?_⟩
    (repeat (first | assumption | exact Ext.refl _ | (with_reducible refine Ext.stepS ?_ (by first | exact Nat.le_refl _ | (simp; done) | (simp; omega)) _) | (with_reducible refine Ext.stepN ?_ _) | (with_reducible refine Ext.stepD ?_) | (with_reducible refine Ext.stepA ?_ _)))
  rename_i p
  rw [outFinR_y hc hk ok.len hsp] at hv
  simp only [Prod.mk.injEq] at hv
  obtain ⟨hv, rfl⟩ := hv
  have hpl := spot_lt ok hsp
  have HV := Lib.hid hv
  have HC := Lib.hid hc
  have HK := Lib.hid hk
  have OK := Lib.hid ok
  have HSP := Lib.hid hsp
  have hzl : 2 ≤ zs.length ∧ zs.length ≤ 256 := by have h1 := ok.len; have h2 := ok.m1; have h3 := ok.m128; omega
  clear hc hk ok hsp hv
  go_enter Try.func40, Try.ntmps40
  go_wp2_with fail
  refine (c_impl_ValidFingers S a zs.length cap zs _ HC.out hm (H.out.on (by (repeat (first | assumption | exact Ext.refl _ | (with_reducible refine Ext.stepS ?_ (by first | exact Nat.le_refl _ | (simp; done) | (simp; omega)) _) | (with_reducible refine Ext.stepN ?_ _) | (with_reducible refine Ext.stepD ?_) | (with_reducible refine Ext.stepA ?_ _)))))).mono ?_; rintro e u1 ⟨rfl, x1⟩
  have X1 := Lib.hid (show Ext w u1 from Ext.trans (by (repeat (first | assumption | exact Ext.refl _ | (with_reducible refine Ext.stepS ?_ (by first | exact Nat.le_refl _ | (simp; done) | (simp; omega)) _) | (with_reducible refine Ext.stepN ?_ _) | (with_reducible refine Ext.stepD ?_) | (with_reducible refine Ext.stepA ?_ _)))) x1)
  have BX1 := Lib.hid (BX.out.on x1)
  have BZ1 := Lib.hid (BZ.out.on x1)
  obtain ⟨b0, b1⟩ := BX1.out.two
  clear x1
  go_wp2_with (go_at_call 69; refine (c_impl_IsKey_q key _ HK.out).mono ?_; rintro e w' ⟨rfl, rfl⟩)
  refine (c_impl_cellOfKey S a zs.length cap m zs key _ HSP.out OK.out HK.out (H.out.on X1.out)).mono ?_; rintro e wa ⟨rfl, x2⟩
  have X2 := Lib.hid (X1.out.trans x2)
  have BX2 := Lib.hid (BX1.out.on x2)
  have BZ2 := Lib.hid (BZ1.out.on x2)
  have HSZ := Lib.hid (show w.heap.size + 2 ≤ wa.heap.size by have h1 := BZ2.out.lt; omega)
  clear x2 b0 b1
  obtain ⟨b0, b1⟩ := BX2.out.two
  simp only [optI, Option.isSome_some]
  have hne : w.heap.size ≠ wa.heap.size := by have := HSZ.out; omega
  have hne' : wa.heap.size ≠ w.heap.size := fun h => hne h.symm
  go_outline
  go_upto_region 3 with fail
  go_cut [8] (fun s6 wx => ∃ nb g c2 f2, s6 = .pointer (some ⟨nb, 0, none⟩) ∧ Box wx nb 41 #[.int .i64 S, .slice (some ⟨g, 0, none⟩) zs.length c2] ∧ wa.heap.size ≤ g ∧ nb ≠ g ∧ wa.heap.size ≤ nb ∧ zs.length ≤ c2 ∧ wx.rowIs g 2 c2 (rowT zs f2) ∧ Ext wa wx)
  case first =>
    go_region_held3 (fun w' => w'.cell? ⟨w.heap.size, 0, none⟩ = some (.int .i64 S) ∧ w'.cell? ⟨w.heap.size, 1, none⟩ = some (.slice a zs.length cap)) (first | exact KA | go_keep)
      (first | (go_at_call 77; refine (c_Clone_r a zs.length cap zs _ (by omega) (by omega) (H.out.on (X2.out.trans (by (repeat (first | assumption | exact Ext.refl _ | (with_reducible refine Ext.stepS ?_ (by first | exact Nat.le_refl _ | (simp; done) | (simp; omega)) _) | (with_reducible refine Ext.stepN ?_ _) | (with_reducible refine Ext.stepD ?_) | (with_reducible refine Ext.stepA ?_ _))))))).mono ?_; rintro e wb ⟨g, c2, f2, rfl, hg, hc2, r2, x2⟩; have EA : Ext wa wb := Ext.trans (by (repeat (first | assumption | exact Ext.refl _ | (with_reducible refine Ext.stepS ?_ (by first | exact Nat.le_refl _ | (simp; done) | (simp; omega)) _) | (with_reducible refine Ext.stepN ?_ _) | (with_reducible refine Ext.stepD ?_) | (with_reducible refine Ext.stepA ?_ _)))) x2; have BX2 := Lib.hid (BX2.out.on EA); have KA := BX2.out.two; have R2 := Lib.hid r2; have G2' := Lib.hid (show wa.heap.size ≤ g from Nat.le_trans (by first | exact Nat.le_refl _ | (simp; done) | (simp; omega)) hg);  have EH := Lib.hid EA; try (have NB := Lib.hid (Box.on (w := wa.alloc (.cells #[.int .i64 0, .slice none 0 0] 41)) (Box.alloc _ _ _) (Ext.trans (by (repeat (first | assumption | exact Ext.refl _ | (with_reducible refine Ext.stepS ?_ (by first | exact Nat.le_refl _ | (simp; done) | (simp; omega)) _) | (with_reducible refine Ext.stepN ?_ _) | (with_reducible refine Ext.stepD ?_) | (with_reducible refine Ext.stepA ?_ _)))) x2)); obtain ⟨z0, z1⟩ := NB.out.two; obtain ⟨y0, y1, y2, y3⟩ := NB.out.free; have GN := Lib.hid (show wa.heap.size < g by have := hg; simp at this; omega)); clear r2 x2 hg EA))
    · go_wp2_with fail
      go_meet
      exact ⟨wb.heap.size, g, c2, f2, rfl, Box.alloc _ _ _, G2'.out, by have := R2.out.lt; omega, EH.out.size, hc2, rowIs_on R2.out (Ext.alloc _ _), EH.out.stepA _⟩
    · go_wp2_with fail
      go_meet
      exact ⟨wa.heap.size, g, c2, f2, rfl, (NB.out.put 0 _).put 1 _, by have := GN.out; omega, by have := GN.out; omega, Nat.le_refl _, hc2, (R2.out.setOther (by have := GN.out; simp; omega) _).setOther (by have := GN.out; simp; omega) _, by have EH' := EH.out; (repeat (first | assumption | exact Ext.refl _ | (with_reducible refine Ext.stepS ?_ (by first | exact Nat.le_refl _ | (simp; done) | (simp; omega)) _) | (with_reducible refine Ext.stepN ?_ _) | (with_reducible refine Ext.stepD ?_) | (with_reducible refine Ext.stepA ?_ _)))⟩
  case rest =>
    obtain ⟨nb, g, c2, f2, rfl, hnb, hg, hng, hnw, hc2, hrow, hext⟩ := hcut
    have HNB := Lib.hid hnb
    have HRW := Lib.hid hrow
    have HEX := Lib.hid hext
    have HNG := Lib.hid hng
    have HG := Lib.hid hg
    have HNW := Lib.hid hnw
    clear hnb hrow hext b0 b1 hng hg hnw hne hne'
    have hgc := HRW.out.cell (i := p) (by omega)
    rw [rowT_at hpl] at hgc
    have hgf := HRW.out.frozen p
    have HS := Lib.hid (show (wc.setCell ⟨g, p, none⟩ (.int .i64 0)).rowIs g 2 c2 (rowT (zs.set p 0) f2) from rowT_set HRW.out (k := p) hpl _)
    obtain ⟨n0, n1⟩ := HNB.out.two
    have hpl' : (p : Int) < (zs.length : Int) := by omega
    have hp0 : (0 : Int) ≤ (p : Int) := by omega
    have HNL := Lib.hid (show (zs.set p 0).length = zs.length from List.length_set)
    have HVV := Lib.hid (show V = ⟨S, zs.set p 0⟩ from HV.out.symm)
    have HON := Lib.hid (own_rowT (lo := wa.heap.size) (by rw [HNL.out]; exact hc2) HG.out HS.out)
    have HTT := Lib.hid (Touch.setCell (lo := g) (hi := g + 1) wc (a := ⟨g, p, none⟩) (Nat.le_refl _) (Nat.lt_succ_self _) (.int .i64 0))
    have HEW := Lib.hid (show Ext w (wc.setCell ⟨g, p, none⟩ (.int .i64 0)) from X2.out.trans (Touch.ext HEX.out HTT.out HG.out))
    have hnbz : w.heap.size + 1 ≠ nb := by have := HSZ.out; have := HNW.out; omega
    have hnbz' : nb ≠ w.heap.size + 1 := fun h => hnbz h.symm
    obtain ⟨z0, z1⟩ := (BZ2.out.on HEX.out).two
    obtain ⟨y0, y1, y2, y3⟩ := (BZ2.out.on HEX.out).free
    have hq1 : nb ≠ g := HNG.out
    have hq2 : g ≠ nb := fun h => hq1 h.symm
    have hq3 : w.heap.size + 1 ≠ g := by have := HSZ.out; have := HG.out; omega
    have hq4 : g ≠ w.heap.size + 1 := fun h => hq3 h.symm
    go_wp2_with fail
    try go_region
    all_goals
      go_wp2
      refine bodyPost_ret (v := .tuple #[.agg #[.int .i64 S, .slice (some ⟨g, 0, none⟩) zs.length c2], .bool true]) (by simp [results, Try.results40, go_sem, z0, z1]) rfl ⟨some ⟨g, 0, none⟩, c2, by rw [HVV.out, HNL.out], ?_, ?_⟩
      · rw [HVV.out]
        refine own_touch HON.out (lo' := w.heap.size + 1) (hi' := w.heap.size + 2) ?_ (by have := HSZ.out; omega) (by have := HSZ.out; have := HEX.out.size; simp; omega) (Nat.le_refl _)
        first | (refine Touch.trans ?_ (Touch.of_ext (Ext.drew _) _ _); (repeat (first | assumption | exact Touch.refl _ _ _ | (with_reducible refine Touch.stepS ?_ (by first | exact Nat.le_refl _ | (simp; done) | (simp; omega)) (by first | (simp; done) | (simp; omega)) _) | (with_reducible refine Touch.stepN ?_ _) | (with_reducible refine Touch.stepA ?_ _))); done) | (repeat (first | assumption | exact Touch.refl _ _ _ | (with_reducible refine Touch.stepS ?_ (by first | exact Nat.le_refl _ | (simp; done) | (simp; omega)) (by first | (simp; done) | (simp; omega)) _) | (with_reducible refine Touch.stepN ?_ _) | (with_reducible refine Touch.stepA ?_ _)))
      · have HEW' := HEW.out
        (repeat (first | assumption | exact Ext.refl _ | (with_reducible refine Ext.stepS ?_ (by first | exact Nat.le_refl _ | (simp; done) | (simp; omega)) _) | (with_reducible refine Ext.stepN ?_ _) | (with_reducible refine Ext.stepD ?_) | (with_reducible refine Ext.stepA ?_ _)))
end Go.Proofs.Ytfolflkbpdbkcab
