/- CountWindow, BoundsOfWindow: the program's side. -/
import Derived.Test.YtplngjbllllanaaWkb
import Derived.Test.YtplngjbllllanaaAsc
namespace Go.Proofs.Ytplngjbllllanaa
open Go.ChangeShapes Go.WideShapes Go.ChangeAt Go.RowKit
set_option linter.unusedVariables false
def sumZ' (zs : List Int) : Int := sumTo (getI zs) zs.length
def cntR (L P : Int) (ts zs : List Int) (t : Int) : Int × Bool :=
  if lateB L P ts zs t then (if (kepZ L ts zs t).length = 0 then (0, true) else (sumZ' (kepZ L ts zs t) - getI (kepZ L ts zs t) 0 / 2, true)) else (0, false)
def bndR (L P : Int) (ts zs : List Int) (t : Int) : Int × Int × Bool :=
  if lateB L P ts zs t then (if (kepZ L ts zs t).length = 0 then (0, 0, true) else (sumZ' (kepZ L ts zs t) - getI (kepZ L ts zs t) 0 + 1, sumZ' (kepZ L ts zs t), true)) else (0, 0, false)
theorem cntR_no {L P : Int} {ts zs : List Int} {t : Int} (h : lateB L P ts zs t = false) : cntR L P ts zs t = (0, false) := if_neg (by rw [h]; decide)
theorem cntR_nil {L P : Int} {ts zs : List Int} {t : Int} (h : lateB L P ts zs t = true) (h0 : (kepZ L ts zs t).length = 0) : cntR L P ts zs t = (0, true) := by unfold cntR; rw [if_pos h, if_pos h0]
theorem cntR_yes {L P : Int} {ts zs : List Int} {t : Int} (h : lateB L P ts zs t = true) (h0 : ¬ (kepZ L ts zs t).length = 0) : cntR L P ts zs t = (sumZ' (kepZ L ts zs t) - getI (kepZ L ts zs t) 0 / 2, true) := by unfold cntR; rw [if_pos h, if_neg h0]
theorem bndR_no {L P : Int} {ts zs : List Int} {t : Int} (h : lateB L P ts zs t = false) : bndR L P ts zs t = (0, 0, false) := if_neg (by rw [h]; decide)
theorem bndR_nil {L P : Int} {ts zs : List Int} {t : Int} (h : lateB L P ts zs t = true) (h0 : (kepZ L ts zs t).length = 0) : bndR L P ts zs t = (0, 0, true) := by unfold bndR; rw [if_pos h, if_pos h0]
theorem bndR_yes {L P : Int} {ts zs : List Int} {t : Int} (h : lateB L P ts zs t = true) (h0 : ¬ (kepZ L ts zs t).length = 0) : bndR L P ts zs t = (sumZ' (kepZ L ts zs t) - getI (kepZ L ts zs t) 0 + 1, sumZ' (kepZ L ts zs t), true) := by unfold bndR; rw [if_pos h, if_neg h0]
structure KepOk (tk zk : List Int) : Prop where
  l : tk.length = zk.length
  n : zk.length ≤ 128
  z : ∀ i, i < zk.length → 1 ≤ getI zk i ∧ getI zk i ≤ 1048576
theorem kep_ok {L P : Int} {ts zs : List Int} {t : Int} (h : lateB L P ts zs t = true) : KepOk (kepT L ts t) (kepZ L ts zs t) := by
  have ok := (late_ok h).ok
  have hk := ok.d.hk
  have hn := ok.d.hn
  refine ⟨by unfold kepT kepZ; rw [List.length_drop, List.length_drop, hk], by unfold kepZ; rw [List.length_drop]; omega, fun i hi => ?_⟩
  unfold kepZ at hi ⊢
  rw [List.length_drop] at hi
  rw [getI_drop]
  exact ok.z _ (by omega)
theorem sumK_bd {zk : List Int} (hn : zk.length ≤ 128) (hz : ∀ i, i < zk.length → 1 ≤ getI zk i ∧ getI zk i ≤ 1048576) : ∀ k, k ≤ zk.length → (k : Int) ≤ sumTo (getI zk) k ∧ sumTo (getI zk) k ≤ 1048576 * (k : Int)
  | 0, _ => ⟨Int.le_refl _, Int.le_refl _⟩
  | k + 1, hk => by
    have h1 := sumK_bd hn hz k (by omega)
    have h2 := hz k (by omega)
    rw [sumTo_succ]
    omega
set_option maxRecDepth 100000 in
set_option maxHeartbeats 4000000 in
theorem c_impl_CountWindow (L P : Int) (a1 : Option Addr) (cap1 : Nat) (ts : List Int) (a2 : Option Addr) (cap2 : Nat) (zs : List Int) (t : Int) (w : World) {r : Int} {b : Bool} (hv : cntR L P ts zs t = (r, b)) (hl : ts.length + zs.length ≤ 1048576) (h : Reads2 w a1 ts.length (ints ts) a2 zs.length (ints zs)) (k1 : SlS a1 ts.length cap1) (k2 : SlS a2 zs.length cap2) :
    Calls Try.prog 28 #[.agg #[.int .i64 L, .int .i64 P, .slice a1 ts.length cap1, .slice a2 zs.length cap2], .int .i64 t] w fun e w' => e = .returned (.tuple #[.int .i64 r, .bool b]) ∧ Ext w w' := by
  have H := Lib.hid h
  have K1 := Lib.hid k1
  have K2 := Lib.hid k2
  have BX := Lib.hid (Box.alloc w #[.int .i64 L, .int .i64 P, .slice a1 ts.length cap1, .slice a2 zs.length cap2] 46)
  have X0 := Lib.hid (Ext.alloc w (.cells #[.int .i64 L, .int .i64 P, .slice a1 ts.length cap1, .slice a2 zs.length cap2] 46))
  obtain ⟨b0, b1, b2, b3⟩ := BX.out.four
  clear h k1 k2
  cases hq : lateB L P ts zs t
  · rw [cntR_no hq] at hv
    simp only [Prod.mk.injEq] at hv
    obtain ⟨rfl, rfl⟩ := hv
    have HQ := Lib.hid hq
    clear hq
    go_enter Try.func28, Try.ntmps28
    go_wp2_with fail
    clear b0 b1 b2 b3
    refine (c_impl_keptAt_no L P _ _ ts _ _ zs t _ HQ.out hl (H.out.on X0.out)).mono ?_; rintro e w1 ⟨rfl, x1⟩
    have X1 : Ext w w1 := X0.out.trans x1
    clear x1
    go_wp2
    go_ret2
    exact ⟨rfl, by (repeat (first | assumption | exact Ext.refl _ | (with_reducible refine Ext.stepS ?_ (by first | exact Nat.le_refl _ | (simp; done) | (simp; omega)) _) | (with_reducible refine Ext.stepN ?_ _) | (with_reducible refine Ext.stepD ?_) | (with_reducible refine Ext.stepA ?_ _)))⟩
  have HQ := Lib.hid hq
  have ok := kep_ok hq
  have HLT := Lib.hid (late_ok hq)
  obtain ⟨tk, htk⟩ : ∃ tk, kepT L ts t = tk := ⟨_, rfl⟩
  obtain ⟨zk, hzk⟩ : ∃ zk, kepZ L ts zs t = zk := ⟨_, rfl⟩
  have CK := Lib.hid (show ∀ wx : World, Ext w wx → Calls Try.prog 80 #[.agg #[.int .i64 L, .int .i64 P, .slice a1 ts.length cap1, .slice a2 zs.length cap2], .int .i64 t] wx (RetKept L P tk zk wx) from fun wx xx => by
    have := c_impl_keptAt_yes L P a1 cap1 ts a2 cap2 zs t wx HLT.out hl (H.out.on xx) K1.out K2.out
    rw [htk, hzk] at this
    exact this)
  by_cases h0 : zk.length = 0
  · rw [cntR_nil hq (by rw [hzk]; exact h0)] at hv
    simp only [Prod.mk.injEq] at hv
    obtain ⟨rfl, rfl⟩ := hv
    rw [htk, hzk] at ok
    have l1 : tk.length = 0 := by have := ok.l; omega
    clear hq htk hzk ok
    go_enter Try.func28, Try.ntmps28
    go_wp2_with fail
    clear b0 b1 b2 b3
    refine (CK.out _ X0.out).mono ?_; rintro e w1 ⟨d1, d2, rfl, -, x1⟩
    have X1 : Ext w w1 := X0.out.trans x1
    clear x1
    rw [h0, l1]
    go_wp2
    go_ret2
    exact ⟨rfl, by (repeat (first | assumption | exact Ext.refl _ | (with_reducible refine Ext.stepS ?_ (by first | exact Nat.le_refl _ | (simp; done) | (simp; omega)) _) | (with_reducible refine Ext.stepN ?_ _) | (with_reducible refine Ext.stepD ?_) | (with_reducible refine Ext.stepA ?_ _)))⟩
  rw [cntR_yes hq (by rw [hzk]; exact h0)] at hv
  simp only [Prod.mk.injEq] at hv
  obtain ⟨hvr, rfl⟩ := hv
  rw [htk, hzk] at ok
  rw [hzk] at hvr
  obtain ⟨n, hn⟩ : ∃ n, zk.length = n + 1 := ⟨zk.length - 1, by omega⟩
  have hsb := sumK_bd ok.n ok.z zk.length (Nat.le_refl _)
  have hz0 := ok.z 0 (by omega)
  unfold sumZ' at hvr
  have l1 : tk.length = n + 1 := by have := ok.l; omega
  have hn128 : (n : Int) + 1 ≤ 128 := by have := ok.n; omega
  obtain ⟨x0, hx0⟩ : ∃ x0, getI zk 0 = x0 := ⟨_, rfl⟩
  obtain ⟨s, hs⟩ : ∃ s, sumTo (getI zk) zk.length = s := ⟨_, rfl⟩
  rw [hx0, hs] at hvr
  rw [hx0] at hz0
  rw [hs] at hsb
  have HSB := Lib.hid hsb
  have HR := Lib.hid hvr
  have s1 : 1 ≤ s := by omega
  have s2 : s ≤ 134217728 := by omega
  have z1 := hz0.1
  have z2 := hz0.2
  have HOK := Lib.hid ok
  have HS := Lib.hid hs
  have HX0 := Lib.hid hx0
  have HN := Lib.hid hn
  clear hq htk hzk ok hvr hsb hz0 hs hx0 h0
  go_enter Try.func28, Try.ntmps28
  go_wp2_with fail
  clear b0 b1 b2 b3
  refine (CK.out _ X0.out).mono ?_; rintro e w1 ⟨d1, d2, rfl, hrd, x1⟩
  have X1 := Lib.hid (X0.out.trans x1)
  have HRD := Lib.hid hrd
  rcases hrd.r2.int.2 with hq | ⟨g, off, rfl, hc⟩
  · omega
  have c0 := hc 0 (by omega)
  have c0 : w1.cell? ⟨g, off, none⟩ = some (.int .i64 x0) := by have h2 := HX0.out; unfold getI at h2; rw [h2] at c0; exact c0
  have C0 := Lib.hid c0
  rw [hn, l1]
  clear x1 hrd hc hn c0
  go_upto_region 4 with fail
  obtain ⟨u, hu⟩ : ∃ u, w1.alloc (.cells #[.int .i64 L, .int .i64 P, .slice d1 (n + 1) (n + 1), .slice (some ⟨g, off, none⟩) (n + 1) (n + 1)] 46) = u := ⟨_, rfl⟩
  have XU1 : Ext w1 u := by rw [← hu]; exact Ext.alloc _ _
  have XU := Lib.hid (X1.out.trans XU1)
  have BU : Box u w1.heap.size 46 #[.int .i64 L, .int .i64 P, .slice d1 (n + 1) (n + 1), .slice (some ⟨g, off, none⟩) (n + 1) (n + 1)] := by rw [← hu]; exact Box.alloc _ _ _
  have c0 := Ext.some XU1 C0.out
  have RU := Lib.hid (show Reads u (some ⟨g, off, none⟩) (n + 1) (ints zk) by have := (HRD.out.on XU1).r2; rw [HN.out] at this; exact this)
  have HS2 := Lib.hid (show sumTo (getI zk) (n + 1) = s by rw [← HN.out]; exact HS.out)
  have HBD := Lib.hid (show ∀ i, i < n + 1 → -1000000000000 ≤ getI zk i ∧ getI zk i ≤ 1000000000000 from fun i hi => by have := HOK.out.z i (by have := HN.out; omega); omega)
  have HML := Lib.hid (show n + 1 ≤ 1048576 by omega)
  rw [hu]
  obtain ⟨b0, b1, b2, b3⟩ := BU.four
  clear hu XU1 BU
  go_quiet (first | (go_at_call 81; exact Calls.quiet_of_same (c_impl_sumOfT _ (n + 1) (n + 1) zk _ HS2.out HML.out HBD.out RU.out)))
  go_wp2
  go_ret2
  exact ⟨by first | rfl | (rw [← HR.out]; done) | (rw [← HR.out]; rfl), by have := XU.out; (repeat (first | assumption | exact Ext.refl _ | (with_reducible refine Ext.stepS ?_ (by first | exact Nat.le_refl _ | (simp; done) | (simp; omega)) _) | (with_reducible refine Ext.stepN ?_ _) | (with_reducible refine Ext.stepD ?_) | (with_reducible refine Ext.stepA ?_ _)))⟩
end Go.Proofs.Ytplngjbllllanaa
