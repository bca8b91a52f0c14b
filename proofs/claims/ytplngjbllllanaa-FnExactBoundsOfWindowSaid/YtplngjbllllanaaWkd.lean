/- BoundsOfWindow: the program's side. -/
import Derived.Test.YtplngjbllllanaaWkc
namespace Go.Proofs.Ytplngjbllllanaa
open Go.ChangeShapes Go.WideShapes Go.ChangeAt Go.RowKit
set_option linter.unusedVariables false
theorem sumTo_tail (zk : List Int) : ∀ n, sumTo (getI zk) (n + 1) = getI zk 0 + sumTo (getI (zk.drop 1)) n
  | 0 => by rw [sumTo_succ]; show 0 + _ = _ + 0; omega
  | n + 1 => by
    rw [sumTo_succ, sumTo_tail zk n, sumTo_succ, getI_drop, show 1 + n = n + 1 by omega]
    omega
set_option maxRecDepth 100000 in
set_option maxHeartbeats 4000000 in
theorem c_impl_BoundsOfWindow (L P : Int) (a1 : Option Addr) (cap1 : Nat) (ts : List Int) (a2 : Option Addr) (cap2 : Nat) (zs : List Int) (t : Int) (w : World) {r1 r2 : Int} {b : Bool} (hv : bndR L P ts zs t = (r1, r2, b)) (hl : ts.length + zs.length ≤ 1048576) (h : Reads2 w a1 ts.length (ints ts) a2 zs.length (ints zs)) (k1 : SlS a1 ts.length cap1) (k2 : SlS a2 zs.length cap2) :
    Calls Try.prog 31 #[.agg #[.int .i64 L, .int .i64 P, .slice a1 ts.length cap1, .slice a2 zs.length cap2], .int .i64 t] w fun e w' => e = .returned (.tuple #[.int .i64 r1, .int .i64 r2, .bool b]) ∧ Ext w w' := by
  have H := Lib.hid h
  have K1 := Lib.hid k1
  have K2 := Lib.hid k2
  have BX := Lib.hid (Box.alloc w #[.int .i64 L, .int .i64 P, .slice a1 ts.length cap1, .slice a2 zs.length cap2] 46)
  have X0 := Lib.hid (Ext.alloc w (.cells #[.int .i64 L, .int .i64 P, .slice a1 ts.length cap1, .slice a2 zs.length cap2] 46))
  obtain ⟨b0, b1, b2, b3⟩ := BX.out.four
  clear h k1 k2
  cases hq : lateB L P ts zs t
  · rw [bndR_no hq] at hv
    simp only [Prod.mk.injEq] at hv
    obtain ⟨rfl, rfl, rfl⟩ := hv
    have HQ := Lib.hid hq
    clear hq
    go_enter Try.func31, Try.ntmps31
    go_wp2_with fail
    clear b0 b1 b2 b3
    refine (c_impl_keptAt_no L P _ _ ts _ _ zs t _ HQ.out hl (H.out.on X0.out)).mono ?_; rintro e w1 ⟨rfl, x1⟩
    have X1 : Ext w w1 := X0.out.trans x1
    clear x1
    go_wp2
    go_ret3
    exact ⟨rfl, by (repeat (first | assumption | exact Ext.refl _ | (with_reducible refine Ext.stepS ?_ (by first | exact Nat.le_refl _ | (simp; done) | (simp; omega)) _) | (with_reducible refine Ext.stepN ?_ _) | (with_reducible refine Ext.stepD ?_) | (with_reducible refine Ext.stepA ?_ _)))⟩
  have HQ := Lib.hid hq
  have ok := kep_ok hq
  have HLT := Lib.hid (late_ok hq)
  obtain ⟨tk, htk⟩ : ∃ tk, kepT L ts t = tk := ⟨_, rfl⟩
  obtain ⟨zk, hzk⟩ : ∃ zk, kepZ L ts zs t = zk := ⟨_, rfl⟩
  have CK := Lib.hid (show ∀ wx : World, Ext w wx → Calls Try.prog 80 #[.agg #[.int .i64 L, .int .i64 P, .slice a1 ts.length cap1, .slice a2 zs.length cap2], .int .i64 t] wx (RetKept L P tk zk wx) from fun wx xx => by
    have := c_impl_keptAt_yes L P a1 cap1 ts a2 cap2 zs t wx HLT.out hl (H.out.on xx) K1.out K2.out
    rw [htk, hzk] at this
    exact this)
  by_cases h0 : zk.length = 0
  · rw [bndR_nil hq (by rw [hzk]; exact h0)] at hv
    simp only [Prod.mk.injEq] at hv
    obtain ⟨rfl, rfl, rfl⟩ := hv
    rw [htk, hzk] at ok
    have l1 : tk.length = 0 := by have := ok.l; omega
    clear hq htk hzk ok
    go_enter Try.func31, Try.ntmps31
    go_wp2_with fail
    clear b0 b1 b2 b3
    refine (CK.out _ X0.out).mono ?_; rintro e w1 ⟨d1, d2, rfl, -, x1⟩
    have X1 : Ext w w1 := X0.out.trans x1
    clear x1
    rw [h0, l1]
    go_wp2
    go_ret3
    exact ⟨rfl, by (repeat (first | assumption | exact Ext.refl _ | (with_reducible refine Ext.stepS ?_ (by first | exact Nat.le_refl _ | (simp; done) | (simp; omega)) _) | (with_reducible refine Ext.stepN ?_ _) | (with_reducible refine Ext.stepD ?_) | (with_reducible refine Ext.stepA ?_ _)))⟩
  rw [bndR_yes hq (by rw [hzk]; exact h0)] at hv
  simp only [Prod.mk.injEq] at hv
  obtain ⟨hvr, hvs, rfl⟩ := hv
  rw [htk, hzk] at ok
  rw [hzk] at hvr hvs
  obtain ⟨n, hn⟩ : ∃ n, zk.length = n + 1 := ⟨zk.length - 1, by omega⟩
  have hsb := sumK_bd ok.n ok.z zk.length (Nat.le_refl _)
  have hz0 := ok.z 0 (by omega)
  unfold sumZ' at hvr hvs
  have l1 : tk.length = n + 1 := by have := ok.l; omega
  have hn128 : (n : Int) + 1 ≤ 128 := by have := ok.n; omega
  obtain ⟨x0, hx0⟩ : ∃ x0, getI zk 0 = x0 := ⟨_, rfl⟩
  obtain ⟨s, hs⟩ : ∃ s, sumTo (getI zk) zk.length = s := ⟨_, rfl⟩
  have htl := sumTo_tail zk n
  rw [← hn, hs, hx0] at htl
  have hsn := sumK_bd ok.n ok.z n (by omega)
  rw [hx0, hs] at hvr
  rw [hs] at hvs
  rw [hx0] at hz0
  rw [hs] at hsb
  have HSB := Lib.hid hsb
  have HR := Lib.hid hvr
  have HR2 := Lib.hid hvs
  obtain ⟨s', hs'⟩ : ∃ s', sumTo (getI (zk.drop 1)) n = s' := ⟨_, rfl⟩
  rw [hs'] at htl
  have HTL := Lib.hid htl
  have HS' := Lib.hid hs'
  have s1 : 1 ≤ s := by omega
  have s2 : s ≤ 134217728 := by omega
  have z1 := hz0.1
  have z2 := hz0.2
  have s3 : 0 ≤ s' := by have := sumK_bd (zk := zk.drop 1) (by rw [List.length_drop]; have := ok.n; omega) (fun i hi => by rw [getI_drop]; rw [List.length_drop] at hi; exact ok.z _ (by omega)) n (by rw [List.length_drop]; omega); rw [hs'] at this; omega
  have s4 : s' ≤ 134217728 := by omega
  have HOK := Lib.hid ok
  have HS := Lib.hid hs
  have HX0 := Lib.hid hx0
  have HN := Lib.hid hn
  clear hq htk hzk ok hvr hvs hsb hz0 hs hx0 h0 htl hsn hs'
  by_cases hn0 : n = 0
  · subst hn0
    go_enter Try.func31, Try.ntmps31
    go_wp2_with fail
    clear b0 b1 b2 b3
    refine (CK.out _ X0.out).mono ?_; rintro e w1 ⟨d1, d2, rfl, hrd, x1⟩
    have X1 := Lib.hid (X0.out.trans x1)
    have HRD := Lib.hid hrd
    rcases hrd.r2.int.2 with hq | ⟨g, off, rfl, hc⟩
    · omega
    have c0 := hc 0 (by omega)
    have c0 : w1.cell? ⟨g, off, none⟩ = some (.int .i64 x0) := by have h2 := HX0.out; unfold getI at h2; rw [h2] at c0; exact c0
    have C0 := Lib.hid c0
    rw [hn, l1]
    clear x1 hrd hc hn c0
    go_upto_region 4 with fail
    obtain ⟨u, hu⟩ : ∃ u, w1.alloc (.cells #[.int .i64 L, .int .i64 P, .slice d1 (0 + 1) (0 + 1), .slice (some ⟨g, off, none⟩) (0 + 1) (0 + 1)] 46) = u := ⟨_, rfl⟩
    have XU1 : Ext w1 u := by rw [← hu]; exact Ext.alloc _ _
    have XU := Lib.hid (X1.out.trans XU1)
    have BU : Box u w1.heap.size 46 #[.int .i64 L, .int .i64 P, .slice d1 (0 + 1) (0 + 1), .slice (some ⟨g, off, none⟩) (0 + 1) (0 + 1)] := by rw [← hu]; exact Box.alloc _ _ _
    have c0 := Ext.some XU1 C0.out
    have RU := Lib.hid (show Reads u (some ⟨g, off, none⟩) (0 + 1) (ints zk) by have := (HRD.out.on XU1).r2; rw [HN.out] at this; exact this)
    have HS2 := Lib.hid (show sumTo (getI zk) (0 + 1) = s by rw [← HN.out]; exact HS.out)
    have HBD := Lib.hid (show ∀ i, i < 0 + 1 → -1000000000000 ≤ getI zk i ∧ getI zk i ≤ 1000000000000 from fun i hi => by have := HOK.out.z i (by have := HN.out; omega); omega)
    have HML := Lib.hid (show 0 + 1 ≤ 1048576 by omega)
    rw [hu]
    obtain ⟨b0, b1, b2, b3⟩ := BU.four
    clear hu XU1 BU
    have RT := Lib.hid (show Reads u (some ⟨g, off, none⟩) 0 (ints (zk.drop 1)) from ⟨by rw [ints_length, List.length_drop]; have := HN.out; omega, .inl rfl⟩)
    have HBD2 := Lib.hid (show ∀ i, i < 0 → -1000000000000 ≤ getI (zk.drop 1) i ∧ getI (zk.drop 1) i ≤ 1000000000000 from fun i hi => absurd hi (Nat.not_lt_zero _))
    go_quiet (first | (go_at_call_of 81 (Value.slice (some ⟨g, off, none⟩) 0 0); exact Calls.quiet_of_same (c_impl_sumOfT _ 0 0 (zk.drop 1) _ HS'.out (by decide) HBD2.out RT.out)) | (go_at_call_of 81 (Value.slice (some ⟨g, off, none⟩) 1 1); exact Calls.quiet_of_same (c_impl_sumOfT _ 1 1 zk _ HS2.out HML.out HBD.out RU.out)))
    go_wp2
    go_ret3
    exact ⟨by first | rfl | (rw [← HR.out, ← HR2.out]; rfl) | (rw [← HR.out, ← HR2.out, show s - x0 = s' by have := HTL.out; omega]; rfl), by have := XU.out; (repeat (first | assumption | exact Ext.refl _ | (with_reducible refine Ext.stepS ?_ (by first | exact Nat.le_refl _ | (simp; done) | (simp; omega)) _) | (with_reducible refine Ext.stepN ?_ _) | (with_reducible refine Ext.stepD ?_) | (with_reducible refine Ext.stepA ?_ _)))⟩
  · have hn0' : ¬ (n : Int) = 0 := by omega
    have hn1 : (1 : Int) ≤ (n : Int) + 1 := by omega
    go_enter Try.func31, Try.ntmps31
    go_wp2_with fail
    clear b0 b1 b2 b3
    refine (CK.out _ X0.out).mono ?_; rintro e w1 ⟨d1, d2, rfl, hrd, x1⟩
    have X1 := Lib.hid (X0.out.trans x1)
    have HRD := Lib.hid hrd
    rcases hrd.r2.int.2 with hq | ⟨g, off, rfl, hc⟩
    · omega
    have c0 := hc 0 (by omega)
    have c0 : w1.cell? ⟨g, off, none⟩ = some (.int .i64 x0) := by have h2 := HX0.out; unfold getI at h2; rw [h2] at c0; exact c0
    have C0 := Lib.hid c0
    rw [hn, l1]
    clear x1 hrd hc hn c0
    go_upto_region 4 with fail
    obtain ⟨u, hu⟩ : ∃ u, w1.alloc (.cells #[.int .i64 L, .int .i64 P, .slice d1 (n + 1) (n + 1), .slice (some ⟨g, off, none⟩) (n + 1) (n + 1)] 46) = u := ⟨_, rfl⟩
    have XU1 : Ext w1 u := by rw [← hu]; exact Ext.alloc _ _
    have XU := Lib.hid (X1.out.trans XU1)
    have BU : Box u w1.heap.size 46 #[.int .i64 L, .int .i64 P, .slice d1 (n + 1) (n + 1), .slice (some ⟨g, off, none⟩) (n + 1) (n + 1)] := by rw [← hu]; exact Box.alloc _ _ _
    have c0 := Ext.some XU1 C0.out
    have RU := Lib.hid (show Reads u (some ⟨g, off, none⟩) (n + 1) (ints zk) by have := (HRD.out.on XU1).r2; rw [HN.out] at this; exact this)
    have HS2 := Lib.hid (show sumTo (getI zk) (n + 1) = s by rw [← HN.out]; exact HS.out)
    have HBD := Lib.hid (show ∀ i, i < n + 1 → -1000000000000 ≤ getI zk i ∧ getI zk i ≤ 1000000000000 from fun i hi => by have := HOK.out.z i (by have := HN.out; omega); omega)
    have HML := Lib.hid (show n + 1 ≤ 1048576 by omega)
    rw [hu]
    obtain ⟨b0, b1, b2, b3⟩ := BU.four
    clear hu XU1 BU
    obtain ⟨zt, hzt⟩ : ∃ zt, zk.drop 1 = zt := ⟨_, rfl⟩
    have RT := Lib.hid (show Reads u (some ⟨g, off + 1, none⟩) n (ints zt) from by have := reads_drop RU.out (d := 1) (by omega); rw [List.length_drop, HN.out, hzt] at this; exact this)
    have HBD2 := Lib.hid (show ∀ i, i < n → -1000000000000 ≤ getI zt i ∧ getI zt i ≤ 1000000000000 from fun i hi => by rw [← hzt, getI_drop]; have := HOK.out.z (1 + i) (by have := HN.out; omega); omega)
    have HST := Lib.hid (show sumTo (getI zt) n = s' by rw [← hzt]; exact HS'.out)
    have CTQ := Lib.hid (fun m : Nat => Calls.quiet_of_same (w := u) (n := m) (c_impl_sumOfT (some ⟨g, off + 1, none⟩) n n zt (u.drewN m) HST.out (by have := HML.out; omega) HBD2.out (RT.out.on (Ext.drewN u m))))
    have CSQ := Lib.hid (fun m : Nat => Calls.quiet_of_same (w := u) (n := m) (c_impl_sumOfT (some ⟨g, off, none⟩) (n + 1) (n + 1) zk (u.drewN m) HS2.out HML.out HBD.out (RU.out.on (Ext.drewN u m))))
    clear hzt hl
    go_quiet (first | (go_at_call 81; with_reducible exact CSQ.out _) | (go_at_call 81; (with_reducible exact CTQ.out _)))
    go_wp2
    go_ret3
    exact ⟨by first | rfl | (rw [← HR.out, ← HR2.out]; rfl) | (rw [← HR.out, ← HR2.out, show s - x0 = s' by have := HTL.out; omega]; rfl), by have := XU.out; (repeat (first | assumption | exact Ext.refl _ | (with_reducible refine Ext.stepS ?_ (by first | exact Nat.le_refl _ | (simp; done) | (simp; omega)) _) | (with_reducible refine Ext.stepN ?_ _) | (with_reducible refine Ext.stepD ?_) | (with_reducible refine Ext.stepA ?_ _)))⟩
end Go.Proofs.Ytplngjbllllanaa
