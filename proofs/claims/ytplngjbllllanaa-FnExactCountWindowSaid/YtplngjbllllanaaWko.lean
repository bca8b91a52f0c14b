/- CountWindow, BoundsOfWindow by the other side. -/
import Derived.Test.YtplngjbllllanaaWkn
namespace Go.Proofs.Ytplngjbllllanaa
open Go.ChangeShapes Go.WideShapes Go.ChangeAt Go.RowKit
set_option linter.unusedVariables false
set_option maxRecDepth 100000 in
set_option maxHeartbeats 4000000 in
theorem c_spec_CountWindow (L P : Int) (a1 : Option Addr) (cap1 : Nat) (ts : List Int) (a2 : Option Addr) (cap2 : Nat) (zs : List Int) (t : Int) (w : World) {r : Int} {b : Bool} (hv : cntR L P ts zs t = (r, b)) (hl : ts.length + zs.length ≤ 1048576) (h : Reads2 w a1 ts.length (ints ts) a2 zs.length (ints zs)) (k1 : SlS a1 ts.length cap1) (k2 : SlS a2 zs.length cap2) :
    Calls Try.prog 26 #[.agg #[.int .i64 L, .int .i64 P, .slice a1 ts.length cap1, .slice a2 zs.length cap2], .int .i64 t] w fun e w' => e = .returned (.tuple #[.int .i64 r, .bool b]) ∧ Ext w w' := by
  have H := Lib.hid h
  have HL := Lib.hid hl
  have BX := Lib.hid (Box.alloc w #[.int .i64 L, .int .i64 P, .slice a1 ts.length cap1, .slice a2 zs.length cap2] 46)
  have X0 := Lib.hid (Ext.alloc w (.cells #[.int .i64 L, .int .i64 P, .slice a1 ts.length cap1, .slice a2 zs.length cap2] 46))
  clear h k1 k2 hl
  cases hq : lateB L P ts zs t
  · rw [cntR_no hq] at hv
    cases hv
    have HQ := Lib.hid hq
    clear hq
    go_enter Try.func26, Try.ntmps26
    go_wp2_with fail
    refine (c_spec_l06Late w.heap.size L P _ _ ts _ _ zs t _ HQ.out HL.out (H.out.on X0.out) BX.out).mono ?_; rintro e w1 ⟨rfl, q1, hw1⟩
    have X1 := Lib.hid (show Ext w w1 by rw [hw1]; exact X0.out.trans (Ext.drewN _ _))
    clear hw1
    go_wp2
    go_ret2
    exact ⟨rfl, X1.out⟩
  have HQ := Lib.hid hq
  have ok := kep_ok hq
  have HLT := Lib.hid (late_ok hq)
  obtain ⟨tk, htk⟩ : ∃ tk, kepT L ts t = tk := ⟨_, rfl⟩
  obtain ⟨zk, hzk⟩ : ∃ zk, kepZ L ts zs t = zk := ⟨_, rfl⟩
  have CK := Lib.hid (show ∀ wx : World, Ext w wx → Box wx w.heap.size 46 #[.int .i64 L, .int .i64 P, .slice a1 ts.length cap1, .slice a2 zs.length cap2] → Calls Try.prog 78 #[.pointer (some ⟨w.heap.size, 0, none⟩), .int .i64 t] wx (RetWk 2 L P tk zk wx) from fun wx xx bx => by
    have := c_spec_l06Kept w.heap.size L P a1 cap1 ts a2 cap2 zs t wx HLT.out (H.out.on xx) bx
    rw [htk, hzk] at this
    exact this)
  by_cases h0 : zk.length = 0
  · rw [cntR_nil hq (by rw [hzk]; exact h0)] at hv
    cases hv
    rw [htk, hzk] at ok
    have l1 : tk.length = 0 := by have := ok.l; omega
    clear hq htk hzk ok
    go_enter Try.func26, Try.ntmps26
    go_wp2_with fail
    refine (c_spec_l06Late w.heap.size L P _ _ ts _ _ zs t _ HQ.out HL.out (H.out.on X0.out) BX.out).mono ?_; rintro e w1 ⟨rfl, q1, hw1⟩
    have X1 := Lib.hid (show Ext w w1 by rw [hw1]; exact X0.out.trans (Ext.drewN _ _))
    have BX1 := Lib.hid (BX.out.on (show Ext _ w1 by rw [hw1]; exact Ext.drewN _ _))
    clear hw1
    go_wp2_with fail
    refine (CK.out _ X1.out BX1.out).mono ?_; rintro e w2 ⟨d1, e1, d2, e2, rfl, -, -, -, x2⟩
    have X2 := Lib.hid (X1.out.trans x2)
    clear x2
    rw [h0, l1]
    go_wp2
    go_ret2
    have := X2.out
    exact ⟨rfl, by (repeat (first | assumption | exact Ext.refl _ | (with_reducible refine Ext.stepS ?_ (by first | exact Nat.le_refl _ | (simp; done) | (simp; omega)) _) | (with_reducible refine Ext.stepN ?_ _) | (with_reducible refine Ext.stepD ?_) | (with_reducible refine Ext.stepA ?_ _)))⟩
  rw [cntR_yes hq (by rw [hzk]; exact h0)] at hv
  simp only [Prod.mk.injEq] at hv
  obtain ⟨hvr, rfl⟩ := hv
  rw [htk, hzk] at ok
  rw [hzk] at hvr
  obtain ⟨n, hn⟩ : ∃ n, zk.length = n + 1 := ⟨zk.length - 1, by omega⟩
  have hsb := sumK_bd ok.n ok.z zk.length (Nat.le_refl _)
  have hz0 := ok.z 0 (by omega)
  unfold sumZ' at hvr
  have l1 : tk.length = n + 1 := by have := ok.l; omega
  have hn128 : (n : Int) + 1 ≤ 128 := by have := ok.n; omega
  obtain ⟨x0, hx0⟩ : ∃ x0, getI zk 0 = x0 := ⟨_, rfl⟩
  obtain ⟨s, hs⟩ : ∃ s, sumTo (getI zk) zk.length = s := ⟨_, rfl⟩
  rw [hs] at hvr
  rw [hx0] at hvr hz0
  rw [hs] at hsb
  have HR := Lib.hid hvr
  have s1 : 1 ≤ s := by omega
  have s2 : s ≤ 134217728 := by omega
  have z1 := hz0.1
  have z2 := hz0.2
  have HOK := Lib.hid ok
  have HS2 := Lib.hid (show sumTo (getI zk) (n + 1) = s by rw [← hn]; exact hs)
  have HX0 := Lib.hid hx0
  have HN := Lib.hid hn
  have HBD := Lib.hid (show ∀ i, i < n + 1 → -1000000000000 ≤ getI zk i ∧ getI zk i ≤ 1000000000000 from fun i hi => by have := ok.z i (by omega); omega)
  have HML := Lib.hid (show n + 1 ≤ 1048576 by omega)
  clear hq htk hzk ok hvr hsb hz0 hs hx0 h0
  go_enter Try.func26, Try.ntmps26
  go_wp2_with fail
  refine (c_spec_l06Late w.heap.size L P _ _ ts _ _ zs t _ HQ.out HL.out (H.out.on X0.out) BX.out).mono ?_; rintro e w1 ⟨rfl, q1, hw1⟩
  have X1 := Lib.hid (show Ext w w1 by rw [hw1]; exact X0.out.trans (Ext.drewN _ _))
  have BX1 := Lib.hid (BX.out.on (show Ext _ w1 by rw [hw1]; exact Ext.drewN _ _))
  clear hw1
  go_wp2_with fail
  refine (CK.out _ X1.out BX1.out).mono ?_; rintro e w2 ⟨d1, e1, d2, e2, rfl, -, ow2, -, x2⟩
  have X2 := Lib.hid (X1.out.trans x2)
  have RD := Lib.hid ow2.reads
  rcases ow2.reads.int.2 with hq | ⟨g, off, rfl, hc⟩
  · omega
  have c0 := hc 0 (by omega)
  have c0 : w2.cell? ⟨g, off, none⟩ = some (.int .i64 x0) := by have h2 := HX0.out; unfold getI at h2; rw [h2] at c0; exact c0
  have C0 := Lib.hid c0
  rw [hn, l1]
  rw [hn] at RD
  clear x2 ow2 hc hn c0
  go_upto_region 4 with fail
  obtain ⟨u, hu⟩ : ∃ u, w2.alloc (.cells #[.int .i64 L, .int .i64 P, .slice d1 (n + 1) e1, .slice (some ⟨g, off, none⟩) (n + 1) e2] 46) = u := ⟨_, rfl⟩
  have XU1 : Ext w2 u := by rw [← hu]; exact Ext.alloc _ _
  have XU := Lib.hid (X2.out.trans XU1)
  have BU : Box u w2.heap.size 46 #[.int .i64 L, .int .i64 P, .slice d1 (n + 1) e1, .slice (some ⟨g, off, none⟩) (n + 1) e2] := by rw [← hu]; exact Box.alloc _ _ _
  have c0 := Ext.some XU1 C0.out
  have RU := Lib.hid (RD.out.on XU1)
  rw [hu]
  obtain ⟨b0, b1, b2, b3⟩ := BU.four
  clear hu XU1 BU
  go_upto_region 6 with fail
  go_quiet (first | (go_at_call 79; exact Calls.quiet_of_same (c_spec_l06Sum _ (n + 1) _ zk _ HS2.out HML.out HBD.out RU.out)))
  go_wp2
  go_ret2
  exact ⟨by first | rfl | (rw [← HR.out]; done) | (rw [← HR.out]; rfl), by have := XU.out; (repeat (first | assumption | exact Ext.refl _ | (with_reducible refine Ext.stepS ?_ (by first | exact Nat.le_refl _ | (simp; done) | (simp; omega)) _) | (with_reducible refine Ext.stepN ?_ _) | (with_reducible refine Ext.stepD ?_) | (with_reducible refine Ext.stepA ?_ _)))⟩
set_option maxRecDepth 100000 in
set_option maxHeartbeats 4000000 in
theorem c_spec_BoundsOfWindow (L P : Int) (a1 : Option Addr) (cap1 : Nat) (ts : List Int) (a2 : Option Addr) (cap2 : Nat) (zs : List Int) (t : Int) (w : World) {r r2 : Int} {b : Bool} (hv : bndR L P ts zs t = (r, r2, b)) (hl : ts.length + zs.length ≤ 1048576) (h : Reads2 w a1 ts.length (ints ts) a2 zs.length (ints zs)) (k1 : SlS a1 ts.length cap1) (k2 : SlS a2 zs.length cap2) :
    Calls Try.prog 30 #[.agg #[.int .i64 L, .int .i64 P, .slice a1 ts.length cap1, .slice a2 zs.length cap2], .int .i64 t] w fun e w' => e = .returned (.tuple #[.int .i64 r, .int .i64 r2, .bool b]) ∧ Ext w w' := by
  have H := Lib.hid h
  have HL := Lib.hid hl
  have BX := Lib.hid (Box.alloc w #[.int .i64 L, .int .i64 P, .slice a1 ts.length cap1, .slice a2 zs.length cap2] 46)
  have X0 := Lib.hid (Ext.alloc w (.cells #[.int .i64 L, .int .i64 P, .slice a1 ts.length cap1, .slice a2 zs.length cap2] 46))
  clear h k1 k2 hl
  cases hq : lateB L P ts zs t
  · rw [bndR_no hq] at hv
    cases hv
    have HQ := Lib.hid hq
    clear hq
    go_enter Try.func30, Try.ntmps30
    go_wp2_with fail
    refine (c_spec_l06Late w.heap.size L P _ _ ts _ _ zs t _ HQ.out HL.out (H.out.on X0.out) BX.out).mono ?_; rintro e w1 ⟨rfl, q1, hw1⟩
    have X1 := Lib.hid (show Ext w w1 by rw [hw1]; exact X0.out.trans (Ext.drewN _ _))
    clear hw1
    go_wp2
    go_ret3
    exact ⟨rfl, X1.out⟩
  have HQ := Lib.hid hq
  have ok := kep_ok hq
  have HLT := Lib.hid (late_ok hq)
  obtain ⟨tk, htk⟩ : ∃ tk, kepT L ts t = tk := ⟨_, rfl⟩
  obtain ⟨zk, hzk⟩ : ∃ zk, kepZ L ts zs t = zk := ⟨_, rfl⟩
  have CK := Lib.hid (show ∀ wx : World, Ext w wx → Box wx w.heap.size 46 #[.int .i64 L, .int .i64 P, .slice a1 ts.length cap1, .slice a2 zs.length cap2] → Calls Try.prog 78 #[.pointer (some ⟨w.heap.size, 0, none⟩), .int .i64 t] wx (RetWk 2 L P tk zk wx) from fun wx xx bx => by
    have := c_spec_l06Kept w.heap.size L P a1 cap1 ts a2 cap2 zs t wx HLT.out (H.out.on xx) bx
    rw [htk, hzk] at this
    exact this)
  by_cases h0 : zk.length = 0
  · rw [bndR_nil hq (by rw [hzk]; exact h0)] at hv
    cases hv
    rw [htk, hzk] at ok
    have l1 : tk.length = 0 := by have := ok.l; omega
    clear hq htk hzk ok
    go_enter Try.func30, Try.ntmps30
    go_wp2_with fail
    refine (c_spec_l06Late w.heap.size L P _ _ ts _ _ zs t _ HQ.out HL.out (H.out.on X0.out) BX.out).mono ?_; rintro e w1 ⟨rfl, q1, hw1⟩
    have X1 := Lib.hid (show Ext w w1 by rw [hw1]; exact X0.out.trans (Ext.drewN _ _))
    have BX1 := Lib.hid (BX.out.on (show Ext _ w1 by rw [hw1]; exact Ext.drewN _ _))
    clear hw1
    go_wp2_with fail
    refine (CK.out _ X1.out BX1.out).mono ?_; rintro e w2 ⟨d1, e1, d2, e2, rfl, -, -, -, x2⟩
    have X2 := Lib.hid (X1.out.trans x2)
    clear x2
    rw [h0, l1]
    go_wp2
    go_ret3
    have := X2.out
    exact ⟨rfl, by (repeat (first | assumption | exact Ext.refl _ | (with_reducible refine Ext.stepS ?_ (by first | exact Nat.le_refl _ | (simp; done) | (simp; omega)) _) | (with_reducible refine Ext.stepN ?_ _) | (with_reducible refine Ext.stepD ?_) | (with_reducible refine Ext.stepA ?_ _)))⟩
  rw [bndR_yes hq (by rw [hzk]; exact h0)] at hv
  simp only [Prod.mk.injEq] at hv
  obtain ⟨hvr, hvr2, rfl⟩ := hv
  rw [htk, hzk] at ok
  rw [hzk] at hvr hvr2
  obtain ⟨n, hn⟩ : ∃ n, zk.length = n + 1 := ⟨zk.length - 1, by omega⟩
  have hsb := sumK_bd ok.n ok.z zk.length (Nat.le_refl _)
  have hz0 := ok.z 0 (by omega)
  unfold sumZ' at hvr hvr2
  have l1 : tk.length = n + 1 := by have := ok.l; omega
  have hn128 : (n : Int) + 1 ≤ 128 := by have := ok.n; omega
  obtain ⟨x0, hx0⟩ : ∃ x0, getI zk 0 = x0 := ⟨_, rfl⟩
  obtain ⟨s, hs⟩ : ∃ s, sumTo (getI zk) zk.length = s := ⟨_, rfl⟩
  rw [hs] at hvr hvr2
  rw [hx0] at hvr hz0
  rw [hs] at hsb
  have HR := Lib.hid hvr
  have HR2 := Lib.hid hvr2
  have s1 : 1 ≤ s := by omega
  have s2 : s ≤ 134217728 := by omega
  have z1 := hz0.1
  have z2 := hz0.2
  have HOK := Lib.hid ok
  have HS2 := Lib.hid (show sumTo (getI zk) (n + 1) = s by rw [← hn]; exact hs)
  have HX0 := Lib.hid hx0
  have HN := Lib.hid hn
  have HBD := Lib.hid (show ∀ i, i < n + 1 → -1000000000000 ≤ getI zk i ∧ getI zk i ≤ 1000000000000 from fun i hi => by have := ok.z i (by omega); omega)
  have HML := Lib.hid (show n + 1 ≤ 1048576 by omega)
  clear hq htk hzk ok hvr hvr2 hsb hz0 hs hx0 h0
  go_enter Try.func30, Try.ntmps30
  go_wp2_with fail
  refine (c_spec_l06Late w.heap.size L P _ _ ts _ _ zs t _ HQ.out HL.out (H.out.on X0.out) BX.out).mono ?_; rintro e w1 ⟨rfl, q1, hw1⟩
  have X1 := Lib.hid (show Ext w w1 by rw [hw1]; exact X0.out.trans (Ext.drewN _ _))
  have BX1 := Lib.hid (BX.out.on (show Ext _ w1 by rw [hw1]; exact Ext.drewN _ _))
  clear hw1
  go_wp2_with fail
  refine (CK.out _ X1.out BX1.out).mono ?_; rintro e w2 ⟨d1, e1, d2, e2, rfl, -, ow2, -, x2⟩
  have X2 := Lib.hid (X1.out.trans x2)
  have RD := Lib.hid ow2.reads
  rcases ow2.reads.int.2 with hq | ⟨g, off, rfl, hc⟩
  · omega
  have c0 := hc 0 (by omega)
  have c0 : w2.cell? ⟨g, off, none⟩ = some (.int .i64 x0) := by have h2 := HX0.out; unfold getI at h2; rw [h2] at c0; exact c0
  have C0 := Lib.hid c0
  rw [hn, l1]
  rw [hn] at RD
  clear x2 ow2 hc hn c0
  go_upto_region 4 with fail
  obtain ⟨u, hu⟩ : ∃ u, w2.alloc (.cells #[.int .i64 L, .int .i64 P, .slice d1 (n + 1) e1, .slice (some ⟨g, off, none⟩) (n + 1) e2] 46) = u := ⟨_, rfl⟩
  have XU1 : Ext w2 u := by rw [← hu]; exact Ext.alloc _ _
  have XU := Lib.hid (X2.out.trans XU1)
  have BU : Box u w2.heap.size 46 #[.int .i64 L, .int .i64 P, .slice d1 (n + 1) e1, .slice (some ⟨g, off, none⟩) (n + 1) e2] := by rw [← hu]; exact Box.alloc _ _ _
  have c0 := Ext.some XU1 C0.out
  have RU := Lib.hid (RD.out.on XU1)
  rw [hu]
  obtain ⟨b0, b1, b2, b3⟩ := BU.four
  clear hu XU1 BU
  go_wp2_with (go_at_call 79; refine (c_spec_l06Sum _ (n + 1) _ zk _ HS2.out HML.out HBD.out RU.out).mono ?_; rintro e w' ⟨rfl, rfl⟩)
  go_ret3
  exact ⟨by first | rfl | (rw [← HR.out, ← HR2.out]; done) | (rw [← HR.out, ← HR2.out]; rfl), by have := XU.out; (repeat (first | assumption | exact Ext.refl _ | (with_reducible refine Ext.stepS ?_ (by first | exact Nat.le_refl _ | (simp; done) | (simp; omega)) _) | (with_reducible refine Ext.stepN ?_ _) | (with_reducible refine Ext.stepD ?_) | (with_reducible refine Ext.stepA ?_ _)))⟩
end Go.Proofs.Ytplngjbllllanaa
