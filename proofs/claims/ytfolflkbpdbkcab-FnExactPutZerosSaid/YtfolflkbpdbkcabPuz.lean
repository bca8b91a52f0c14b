/- PutZeros: the program's side. -/
import Derived.Test.YtfolflkbpdbkcabZes
namespace Go.Proofs.Ytfolflkbpdbkcab
open Go.ChangeShapes Go.WideShapes Go.ChangeAt Go.RowKit
set_option linter.unusedVariables false
theorem c_impl_hashKey_v (key salt : Int) (y : Nat) (w : World) (hk : keyB key = true) (hs : keyB salt = true) (hy : hashN key salt = y) : Calls Try.prog 91 #[.int .i64 key, .int .i64 salt] w fun e w' => e = .returned (.int .i64 (y : Nat)) ∧ w = w' := by
  subst hy; exact c_impl_hashKey key salt w hk hs
set_option maxHeartbeats 4000000 in
theorem c_impl_PutZeros (S : Int) (a : Option Addr) (n cap : Nat) (zs : List Int) (key : Int) (w : World) {V : FV} {v : Bool} (hv : putZR S zs key = (V, v)) (hm : n ≤ maxLen) (h : Reads w a n (ints zs)) :
    Calls Try.prog 47 #[.agg #[.int .i64 S, .slice a n cap], .int .i64 key] w (RetKFB 2 V v w) := by
  have hn := h.int.1
  subst hn
  have H := Lib.hid h
  have BX := Lib.hid ((Box.alloc w #[.int .i64 S, .slice a zs.length cap] 54).past (.cells #[.int .i64 0, .slice none 0 0] 54))
  have BZ := Lib.hid (Box.alloc_at (w.alloc (.cells #[.int .i64 S, .slice a zs.length cap] 54)) #[.int .i64 0, .slice none 0 0] 54 (b := w.heap.size + 1) (by simp))
  clear h
  cases hc : zerB S zs
  · rw [putZR_1 hc] at hv
    simp only [Prod.mk.injEq] at hv
    obtain ⟨rfl, rfl⟩ := hv
    have HC := Lib.hid hc
    clear hc
    go_enter Try.func47, Try.ntmps47
    go_wp2_with fail
    refine (c_impl_ValidZeros S a zs.length cap zs _ HC.out hm (H.out.on (by (repeat (first | assumption | exact Ext.refl _ | (with_reducible refine Ext.stepS ?_ (by first | exact Nat.le_refl _ | (simp; done) | (simp; omega)) _) | (with_reducible refine Ext.stepN ?_ _) | (with_reducible refine Ext.stepD ?_) | (with_reducible refine Ext.stepA ?_ _)))))).mono ?_; rintro e u1 ⟨rfl, x1⟩
    have X : Ext w u1 := Ext.trans (by (repeat (first | assumption | exact Ext.refl _ | (with_reducible refine Ext.stepS ?_ (by first | exact Nat.le_refl _ | (simp; done) | (simp; omega)) _) | (with_reducible refine Ext.stepN ?_ _) | (with_reducible refine Ext.stepD ?_) | (with_reducible refine Ext.stepA ?_ _)))) x1
    obtain ⟨z0, z1⟩ := (BZ.out.on x1).two
    obtain ⟨f0, f1, f2, f3⟩ := (BZ.out.on x1).free
    clear x1
    go_wp2
    refine bodyPost_ret (v := .tuple #[.agg #[.int .i64 0, .slice none 0 0], .bool false]) (by simp [results, Try.results47, go_sem, z0, z1]) rfl ⟨none, 0, rfl, Own.nil _ _ _ _, ?_⟩
    (repeat (first | assumption | exact Ext.refl _ | (with_reducible refine Ext.stepS ?_ (by first | exact Nat.le_refl _ | (simp; done) | (simp; omega)) _) | (with_reducible refine Ext.stepN ?_ _) | (with_reducible refine Ext.stepD ?_) | (with_reducible refine Ext.stepA ?_ _)))
  cases hk : keyB key
  · rw [putZR_2 hk] at hv
    simp only [Prod.mk.injEq] at hv
    obtain ⟨rfl, rfl⟩ := hv
    have HC := Lib.hid hc
    have HK := Lib.hid hk
    clear hc hk
    go_enter Try.func47, Try.ntmps47
    go_wp2_with fail
    refine (c_impl_ValidZeros S a zs.length cap zs _ HC.out hm (H.out.on (by (repeat (first | assumption | exact Ext.refl _ | (with_reducible refine Ext.stepS ?_ (by first | exact Nat.le_refl _ | (simp; done) | (simp; omega)) _) | (with_reducible refine Ext.stepN ?_ _) | (with_reducible refine Ext.stepD ?_) | (with_reducible refine Ext.stepA ?_ _)))))).mono ?_; rintro e u1 ⟨rfl, x1⟩
    have X : Ext w u1 := Ext.trans (by (repeat (first | assumption | exact Ext.refl _ | (with_reducible refine Ext.stepS ?_ (by first | exact Nat.le_refl _ | (simp; done) | (simp; omega)) _) | (with_reducible refine Ext.stepN ?_ _) | (with_reducible refine Ext.stepD ?_) | (with_reducible refine Ext.stepA ?_ _)))) x1
    obtain ⟨z0, z1⟩ := (BZ.out.on x1).two
    obtain ⟨f0, f1, f2, f3⟩ := (BZ.out.on x1).free
    clear x1
    go_wp2_with (go_at_call 69; refine (c_impl_IsKey_q key _ HK.out).mono ?_; rintro e w' ⟨rfl, rfl⟩)
    refine bodyPost_ret (v := .tuple #[.agg #[.int .i64 0, .slice none 0 0], .bool false]) (by simp [results, Try.results47, go_sem, z0, z1]) rfl ⟨none, 0, rfl, Own.nil _ _ _ _, ?_⟩
    (repeat (first | assumption | exact Ext.refl _ | (with_reducible refine Ext.stepS ?_ (by first | exact Nat.le_refl _ | (simp; done) | (simp; omega)) _) | (with_reducible refine Ext.stepN ?_ _) | (with_reducible refine Ext.stepD ?_) | (with_reducible refine Ext.stepA ?_ _)))
  have hzl := zer_len hc
  obtain ⟨hsk, _, hup⟩ := cellsUp_yes hc
  obtain ⟨p, hp⟩ : ∃ p, belowN key S zs.length = p := ⟨_, rfl⟩
  have hpl : p < zs.length := by rw [← hp]; exact belowN_lt key S zs.length (by omega)
  obtain ⟨x, hx⟩ : ∃ x, zs[p]?.getD 0 = x := ⟨_, rfl⟩
  have hxb := upB_at hup hpl
  rw [hx] at hxb
  obtain ⟨s1, hs1⟩ : ∃ s1, saltZ S 1 = s1 := ⟨_, rfl⟩
  obtain ⟨y, hy⟩ : ∃ y, hashN key s1 = y := ⟨_, rfl⟩
  have hyb : y < 4294967296 := by rw [← hy]; exact hashN_lt key s1
  obtain ⟨r, hr⟩ : ∃ r, runZ y = r := ⟨_, rfl⟩
  have hrb := runZ_bd hyb
  rw [hr] at hrb
  rw [putZR_y hc hk hp hx (by rw [hs1, hy, hr]) rfl] at hv
  simp only [Prod.mk.injEq] at hv
  obtain ⟨hv, rfl⟩ := hv
  have HV := Lib.hid hv
  have HC := Lib.hid hc
  have HK := Lib.hid hk
  have HSK := Lib.hid hsk
  have HP := Lib.hid hp
  have HX := Lib.hid hx
  have HS1 := Lib.hid hs1
  have HS1K := Lib.hid (show keyB s1 = true by rw [← hs1]; exact saltZ_key S 1)
  have HY := Lib.hid hy
  have HR := Lib.hid hr
  clear hc hk hv hsk hup hp hx hs1 hy hr
  go_enter Try.func47, Try.ntmps47
  go_wp2_with fail
  refine (c_impl_ValidZeros S a zs.length cap zs _ HC.out hm (H.out.on (by (repeat (first | assumption | exact Ext.refl _ | (with_reducible refine Ext.stepS ?_ (by first | exact Nat.le_refl _ | (simp; done) | (simp; omega)) _) | (with_reducible refine Ext.stepN ?_ _) | (with_reducible refine Ext.stepD ?_) | (with_reducible refine Ext.stepA ?_ _)))))).mono ?_; rintro e wa ⟨rfl, x1⟩
  have X1 := Lib.hid (show Ext w wa from Ext.trans (by (repeat (first | assumption | exact Ext.refl _ | (with_reducible refine Ext.stepS ?_ (by first | exact Nat.le_refl _ | (simp; done) | (simp; omega)) _) | (with_reducible refine Ext.stepN ?_ _) | (with_reducible refine Ext.stepD ?_) | (with_reducible refine Ext.stepA ?_ _)))) x1)
  have BX1 := Lib.hid (BX.out.on x1)
  have BZ1 := Lib.hid (BZ.out.on x1)
  have HSZ := Lib.hid (show w.heap.size + 2 ≤ wa.heap.size by have h1 := BZ1.out.lt; omega)
  obtain ⟨b0, b1⟩ := BX1.out.two
  clear x1
  go_wp2_with (go_at_call 69; refine (c_impl_IsKey_q key _ HK.out).mono ?_; rintro e w' ⟨rfl, rfl⟩)
  have hne : w.heap.size ≠ wa.heap.size := by have := HSZ.out; omega
  have hne' : wa.heap.size ≠ w.heap.size := fun h => hne h.symm
  go_upto_region 3 with fail
  go_cut [6] (fun s6 wx => ∃ nb g c2 f2, s6 = .pointer (some ⟨nb, 0, none⟩) ∧ Box wx nb 54 #[.int .i64 S, .slice (some ⟨g, 0, none⟩) zs.length c2] ∧ wa.heap.size ≤ g ∧ nb ≠ g ∧ wa.heap.size ≤ nb ∧ zs.length ≤ c2 ∧ wx.rowIs g 2 c2 (rowT zs f2) ∧ Ext wa wx)
  case first =>
    go_region_held3 (fun w' => w'.cell? ⟨w.heap.size, 0, none⟩ = some (.int .i64 S) ∧ w'.cell? ⟨w.heap.size, 1, none⟩ = some (.slice a zs.length cap)) (first | exact KA | go_keep)
      (first | (go_at_call 77; refine (c_Clone_r a zs.length cap zs _ (by omega) (by omega) (H.out.on (X1.out.trans (by (repeat (first | assumption | exact Ext.refl _ | (with_reducible refine Ext.stepS ?_ (by first | exact Nat.le_refl _ | (simp; done) | (simp; omega)) _) | (with_reducible refine Ext.stepN ?_ _) | (with_reducible refine Ext.stepD ?_) | (with_reducible refine Ext.stepA ?_ _))))))).mono ?_; rintro e wb ⟨g, c2, f2, rfl, hg, hc2, r2, x2⟩; have EA : Ext wa wb := Ext.trans (by (repeat (first | assumption | exact Ext.refl _ | (with_reducible refine Ext.stepS ?_ (by first | exact Nat.le_refl _ | (simp; done) | (simp; omega)) _) | (with_reducible refine Ext.stepN ?_ _) | (with_reducible refine Ext.stepD ?_) | (with_reducible refine Ext.stepA ?_ _)))) x2; have BX2 := Lib.hid (BX1.out.on EA); have KA := BX2.out.two; have R2 := Lib.hid r2; have G2' := Lib.hid (show wa.heap.size ≤ g from Nat.le_trans (by first | exact Nat.le_refl _ | (simp; done) | (simp; omega)) hg);  have EH := Lib.hid EA; try (have NB := Lib.hid (Box.on (w := wa.alloc (.cells #[.int .i64 0, .slice none 0 0] 54)) (Box.alloc _ _ _) (Ext.trans (by (repeat (first | assumption | exact Ext.refl _ | (with_reducible refine Ext.stepS ?_ (by first | exact Nat.le_refl _ | (simp; done) | (simp; omega)) _) | (with_reducible refine Ext.stepN ?_ _) | (with_reducible refine Ext.stepD ?_) | (with_reducible refine Ext.stepA ?_ _)))) x2)); obtain ⟨z0, z1⟩ := NB.out.two; obtain ⟨y0, y1, y2, y3⟩ := NB.out.free; have GN := Lib.hid (show wa.heap.size < g by have := hg; simp at this; omega)); clear r2 x2 hg EA))
    · go_wp2_with fail
      go_meet
      exact ⟨wb.heap.size, g, c2, f2, rfl, Box.alloc _ _ _, G2'.out, by have := R2.out.lt; omega, EH.out.size, hc2, rowIs_on R2.out (Ext.alloc _ _), EH.out.stepA _⟩
    · go_wp2_with fail
      go_meet
      exact ⟨wa.heap.size, g, c2, f2, rfl, (NB.out.put 0 _).put 1 _, by have := GN.out; omega, by have := GN.out; omega, Nat.le_refl _, hc2, (R2.out.setOther (by have := GN.out; simp; omega) _).setOther (by have := GN.out; simp; omega) _, by have EH' := EH.out; (repeat (first | assumption | exact Ext.refl _ | (with_reducible refine Ext.stepS ?_ (by first | exact Nat.le_refl _ | (simp; done) | (simp; omega)) _) | (with_reducible refine Ext.stepN ?_ _) | (with_reducible refine Ext.stepD ?_) | (with_reducible refine Ext.stepA ?_ _)))⟩
  case rest =>
    obtain ⟨nb, g, c2, f2, rfl, hnb, hg, hng, hnw, hc2, hrow, hext⟩ := hcut
    have HNB := Lib.hid hnb
    have HRW := Lib.hid hrow
    have HEX := Lib.hid hext
    have HNG := Lib.hid hng
    have HG := Lib.hid hg
    have HNW := Lib.hid hnw
    clear hnb hrow hext b0 b1 hng hg hnw hne hne'
    obtain ⟨b0, b1⟩ := (BX1.out.on HEX.out).two
    go_wp2_with fail
    refine (c_impl_hashBelow_e key S zs.length p _ HK.out HSK.out (by omega) HP.out).mono ?_; rintro e w' ⟨rfl, rfl⟩
    go_wp2_with fail
    refine (c_impl_saltAfter_e S 1 s1 _ HSK.out (by decide) HS1.out).mono ?_; rintro e w' ⟨rfl, rfl⟩
    go_wp2_with fail
    refine (c_impl_hashKey_v key s1 y _ HK.out HS1K.out HY.out).mono ?_; rintro e w' ⟨rfl, rfl⟩
    go_wp2_with fail
    refine (c_impl_ZerosOf_h y r _ hyb HR.out).mono ?_; rintro e w' ⟨rfl, rfl⟩
    have hgc := HRW.out.cell (i := p) (by omega)
    rw [rowT_at hpl, HX.out] at hgc
    have hgf := HRW.out.frozen p
    have HS := Lib.hid (show (wc.setCell ⟨g, p, none⟩ (.int .i64 (max x (1 + r)))).rowIs g 2 c2 (rowT (zs.set p (max x (1 + r))) f2) from rowT_set HRW.out (k := p) hpl _)
    obtain ⟨n0, n1⟩ := HNB.out.two
    have hpl' : (p : Int) < (zs.length : Int) := by omega
    have hp0 : (0 : Int) ≤ (p : Int) := by omega
    have HNL := Lib.hid (show (zs.set p (max x (1 + r))).length = zs.length from List.length_set)
    have HVV := Lib.hid (show V = ⟨S, zs.set p (max x (1 + r))⟩ from HV.out.symm)
    have HON := Lib.hid (own_rowT (lo := wa.heap.size) (by rw [HNL.out]; exact hc2) HG.out HS.out)
    have HTT := Lib.hid (Touch.setCell (lo := g) (hi := g + 1) wc (a := ⟨g, p, none⟩) (Nat.le_refl _) (Nat.lt_succ_self _) (.int .i64 (max x (1 + r))))
    have HZN := Lib.hid ((BZ1.out.on HEX.out).beside HTT.out (by have := HG.out; have := HSZ.out; omega))
    have HBN := Lib.hid (HNB.out.beside HTT.out (by have := HNG.out; omega))
    have HEW := Lib.hid (show Ext w (wc.setCell ⟨g, p, none⟩ (.int .i64 (max x (1 + r)))) from X1.out.trans (Touch.ext HEX.out HTT.out HG.out))
    have hnbz : w.heap.size + 1 ≠ nb := by have := HSZ.out; have := HNW.out; omega
    have hnbz' : nb ≠ w.heap.size + 1 := fun h => hnbz h.symm
    obtain ⟨z0, z1⟩ := (BZ1.out.on HEX.out).two
    obtain ⟨y0, y1, y2, y3⟩ := (BZ1.out.on HEX.out).free
    have hq1 : nb ≠ g := HNG.out
    have hq2 : g ≠ nb := fun h => hq1 h.symm
    have hq3 : w.heap.size + 1 ≠ g := by have := HSZ.out; have := HG.out; omega
    have hq4 : g ≠ w.heap.size + 1 := fun h => hq3 h.symm
    go_wp2_with fail
    go_region
    all_goals
      go_wp2
      refine bodyPost_ret (v := .tuple #[.agg #[.int .i64 S, .slice (some ⟨g, 0, none⟩) zs.length c2], .bool true]) (by simp [results, Try.results47, go_sem, z0, z1]) rfl ⟨some ⟨g, 0, none⟩, c2, by rw [HVV.out, HNL.out], ?_, ?_⟩
      · rw [HVV.out]
        refine own_touch HON.out (lo' := w.heap.size + 1) (hi' := w.heap.size + 2) ?_ (by have := HSZ.out; omega) (by have := HSZ.out; have := HEX.out.size; simp; omega) (Nat.le_refl _)
        refine Touch.trans ?_ (Touch.of_ext (Ext.drew _) _ _)
        (repeat (first | assumption | exact Touch.refl _ _ _ | (with_reducible refine Touch.stepS ?_ (by first | exact Nat.le_refl _ | (simp; done) | (simp; omega)) (by first | (simp; done) | (simp; omega)) _) | (with_reducible refine Touch.stepN ?_ _) | (with_reducible refine Touch.stepA ?_ _)))
      · have HEW' := HEW.out
        (repeat (first | assumption | exact Ext.refl _ | (with_reducible refine Ext.stepS ?_ (by first | exact Nat.le_refl _ | (simp; done) | (simp; omega)) _) | (with_reducible refine Ext.stepN ?_ _) | (with_reducible refine Ext.stepD ?_) | (with_reducible refine Ext.stepA ?_ _)))
end Go.Proofs.Ytfolflkbpdbkcab
