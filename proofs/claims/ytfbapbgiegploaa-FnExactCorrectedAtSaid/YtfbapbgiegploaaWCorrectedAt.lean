/- The walk of the law FnExactCorrectedAt. -/
import Derived.Test.YtfbapbgiegploaaCrx
import Derived.Deep.RegionHeld3
import Derived.Deep.DeepCutAuto
import Derived.Deep.LoopGhost
import Derived.WalkLawsBesides
namespace Go.Proofs.Ytfbapbgiegploaa
open Go.ChangeShapes Go.WideShapes Go.ChangeAt Go.RowKit
set_option linter.unusedVariables false
open Go.Proofs.Ytfbapbgiegploaa.Flo
attribute [local go_sem] run_fl_add run_fl_sub run_fl_mul run_fl_quo run_conv run_store_float run_store_complex
set_option maxHeartbeats 8000000 in
theorem walk_FnExactCorrectedAt (W0 : Int) (D0 : Int) (S0 : Int) (p0_3 : Option Addr) (len0_3 cap0_3 : Nat) (z0_3 : List Int) (a1 : Int) (w : World) (w0_0 : (Lit.int .i64 W0).wf = true) (w0_1 : (Lit.int .i64 D0).wf = true) (w0_2 : (Lit.int .i64 S0).wf = true) (w0_3 : IsRow .i64 w p0_3 len0_3 cap0_3 z0_3) (w1 : (Lit.int .i64 a1).wf = true) :
    Calls Try.prog 8 #[.agg #[.int .i64 W0, .int .i64 D0, .int .i64 S0, .slice p0_3 len0_3 cap0_3], .int .i64 a1] w fun e w' => e = .returned (.bool true) ∧ Below w.heap.size w w' := by
  clear w0_0
  clear w0_1
  clear w0_2
  obtain ⟨h0_3, m0_3⟩ := w0_3.rd
  obtain ⟨zs0, hz0_3⟩ : ∃ zs, z0_3.take len0_3 = zs := ⟨_, rfl⟩
  rw [hz0_3] at h0_3
  have hl0_3 := h0_3.int.1
  subst hl0_3
  have H0_3 := Lib.hid h0_3; have M0_3 := Lib.hid m0_3
  clear hz0_3 h0_3 m0_3 w0_3
  clear w1
  have BA0_0 := Lib.hid (Box.alloc_at w #[.int .i64 W0, .int .i64 D0, .int .i64 S0, .slice p0_3 zs0.length cap0_3] 90 (b := w.heap.size) (by first | omega | (simp; done) | (simp; omega)))
  have B0 := Lib.hid (show Ext w (w.alloc (.cells #[.int .i64 W0, .int .i64 D0, .int .i64 S0, .slice p0_3 zs0.length cap0_3] 90)) from by (repeat (first | assumption | exact Ext.refl _ | (with_reducible refine Ext.stepS ?_ (by first | exact Nat.le_refl _ | (simp; done) | (simp; omega)) _) | (with_reducible refine Ext.stepN ?_ _) | (with_reducible refine Ext.stepD ?_) | (with_reducible refine Ext.stepA ?_ _))))
  by_cases g0 : 1048576 < zs0.length
  · go_enter Try.func8, Try.ntmps8
    go_wp2_with fail
    refine (c_szC_no W0 D0 S0 _ _ _ 1048576 _ g0 (by decide) M0_3.out).mono ?_; rintro e u1 ⟨rfl, x'⟩
    have X := B0.out.trans x'
    clear x'
    go_wp2
    go_ret
    exact ⟨rfl, X⟩
  have G0 := Lib.hid (show zs0.length ≤ 1048576 by omega)
  clear g0
  obtain ⟨rv, rb, hR⟩ : ∃ z b, corX W0 D0 S0 zs0 a1 = ((z : Option Nat), b) := ⟨_, _, rfl⟩
  have HV := Lib.hid hR
  clear hR
  go_enter Try.func8, Try.ntmps8
  go_wp2_with fail
  refine (c_szC_ok W0 D0 S0 _ _ _ 1048576 _ G0.out (by decide)).mono ?_; rintro e u1 ⟨rfl, x'⟩
  have hnn0 : (0 : Int) ≤ ((1048576 - zs0.length : Nat) : Int) := by omega
  have B1 := Lib.hid (B0.out.trans x')
  have BA0_1 := Lib.hid (BA0_0.out.on x')
  have SZ1 := Lib.hid (show w.heap.size + 1 ≤ u1.heap.size from Nat.le_trans (by first | omega | (simp; done) | (simp; omega)) x'.size); clear x'
  obtain ⟨fA00, fA01, fA02, fA03⟩ := BA0_1.out.four
  go_wp2_with fail
  clear fA00 fA01 fA02 fA03
  refine (c_toC_n W0 D0 S0 _ _ _ zs0 _ G0.out (H0_3.out.on B1.out)).mono ?_; rintro e u2 ⟨a_s0, rfl, o', x'⟩
  have B2 := Lib.hid (B1.out.trans x')
  have BA0_2 := Lib.hid (BA0_1.out.on x')
  have Os0_2 := Lib.hid (o'.wide (lo' := u1.heap.size) (hi' := u2.heap.size) (by first | omega | (simp; done) | (simp; omega)) (Nat.le_refl _)); clear o'
  have SZ2 := Lib.hid (show u1.heap.size ≤ u2.heap.size from Nat.le_trans (by first | omega | (simp; done) | (simp; omega)) x'.size); clear x'
  go_wp2_with fail
  refine (c_spec_CorrectedAtX W0 D0 S0 _ _ _ zs0 a1 _ HV.out (by have := G0.out; unfold maxLen; omega) ⟨Nat.le_refl _, by have := G0.out; unfold maxLen; omega⟩ Os0_2.out.reads).mono ?_; rintro e u3 ⟨rw, rfl, hv, x'⟩
  have HVw := Lib.hid hv; clear hv
  have B3 := Lib.hid (B2.out.trans x')
  have BA0_3 := Lib.hid (BA0_2.out.on x')
  have Os0_3 := Lib.hid (Os0_2.out.on x')
  have SZ3 := Lib.hid (show u2.heap.size ≤ u3.heap.size from Nat.le_trans (by first | omega | (simp; done) | (simp; omega)) x'.size); clear x'
  obtain ⟨fA00, fA01, fA02, fA03⟩ := BA0_3.out.four
  go_wp2_with fail
  clear fA00 fA01 fA02 fA03
  refine (c_toC_n W0 D0 S0 _ _ _ zs0 _ G0.out (H0_3.out.on B3.out)).mono ?_; rintro e u4 ⟨a_x0, rfl, o', x'⟩
  have B4 := Lib.hid (B3.out.trans x')
  have BA0_4 := Lib.hid (BA0_3.out.on x')
  have Os0_4 := Lib.hid (Os0_3.out.on x')
  have Ox0_4 := Lib.hid (o'.wide (lo' := u3.heap.size) (hi' := u4.heap.size) (by first | omega | (simp; done) | (simp; omega)) (Nat.le_refl _)); clear o'
  have SZ4 := Lib.hid (show u3.heap.size ≤ u4.heap.size from Nat.le_trans (by first | omega | (simp; done) | (simp; omega)) x'.size); clear x'
  replace B4 := Lib.hid (B4.out.stepA (.cells #[.int .i64 W0, .int .i64 D0, .int .i64 S0, .slice a_x0 zs0.length zs0.length] 57))
  replace BA0_4 := Lib.hid (BA0_4.out.past (.cells #[.int .i64 W0, .int .i64 D0, .int .i64 S0, .slice a_x0 zs0.length zs0.length] 57))
  replace Os0_4 := Lib.hid (Os0_4.out.on (Ext.alloc u4 (.cells #[.int .i64 W0, .int .i64 D0, .int .i64 S0, .slice a_x0 zs0.length zs0.length] 57)))
  replace Ox0_4 := Lib.hid (Ox0_4.out.on (Ext.alloc u4 (.cells #[.int .i64 W0, .int .i64 D0, .int .i64 S0, .slice a_x0 zs0.length zs0.length] 57)))
  have Bx0_4 := Lib.hid (Box.alloc u4 #[.int .i64 W0, .int .i64 D0, .int .i64 S0, .slice a_x0 zs0.length zs0.length] 57)
  obtain ⟨fx00, fx01, fx02, fx03⟩ := Bx0_4.out.four
  go_wp2_with fail
  clear fx00 fx01 fx02 fx03
  refine (c_impl_CorrectedAtX W0 D0 S0 _ _ _ zs0 a1 _ HV.out (by have := G0.out; unfold maxLen; omega) ⟨Nat.le_refl _, by have := G0.out; unfold maxLen; omega⟩ Ox0_4.out.reads).mono ?_; rintro e u5 ⟨rg, rfl, hv, x'⟩
  have HVg := Lib.hid hv; clear hv
  have B5 := Lib.hid (B4.out.trans x')
  have BA0_5 := Lib.hid (BA0_4.out.on x')
  have Bx0_5 := Lib.hid (Bx0_4.out.on x')
  have Os0_5 := Lib.hid (Os0_4.out.on x')
  have Ox0_5 := Lib.hid (Ox0_4.out.on x')
  have SZ5 := Lib.hid (show u4.heap.size + 1 ≤ u5.heap.size from Nat.le_trans (by first | omega | (simp; done) | (simp; omega)) x'.size); clear x'
  go_wp2_with fail
  refine (c_sameFloat _ _ _ (by rw [Flo.fv_wideR, Flo.fv_wideR, HVw.out, HVg.out])).mono ?_; rintro e u6 ⟨rfl, hx⟩
  have x' : Ext u5 u6 := by obtain ⟨m, hm⟩ := hx; rw [hm]; first | exact Ext.drewN _ _ | exact (Ext.drewN _ _).trans (Ext.drewN _ _) | exact (Ext.drew _).trans (Ext.drewN _ _)
  clear hx
  have B6 := Lib.hid (B5.out.trans x')
  have BA0_6 := Lib.hid (BA0_5.out.on x')
  have Bx0_6 := Lib.hid (Bx0_5.out.on x')
  have Os0_6 := Lib.hid (Os0_5.out.on x')
  have Ox0_6 := Lib.hid (Ox0_5.out.on x')
  have SZ6 := Lib.hid (show u5.heap.size ≤ u6.heap.size from Nat.le_trans (by first | omega | (simp; done) | (simp; omega)) x'.size); clear x'
  obtain ⟨fA00, fA01, fA02, fA03⟩ := BA0_6.out.four
  obtain ⟨fx00, fx01, fx02, fx03⟩ := Bx0_6.out.four
  go_wp2_with fail
  go_region_held3 (fun w' => w'.cell? ⟨w.heap.size, 0, none⟩ = some (.int .i64 W0) ∧ w'.cell? ⟨w.heap.size, 1, none⟩ = some (.int .i64 D0) ∧ w'.cell? ⟨w.heap.size, 2, none⟩ = some (.int .i64 S0) ∧ w'.cell? ⟨w.heap.size, 3, none⟩ = some (.slice p0_3 zs0.length cap0_3) ∧ w'.cell? ⟨u4.heap.size, 0, none⟩ = some (.int .i64 W0) ∧ w'.cell? ⟨u4.heap.size, 1, none⟩ = some (.int .i64 D0) ∧ w'.cell? ⟨u4.heap.size, 2, none⟩ = some (.int .i64 S0) ∧ w'.cell? ⟨u4.heap.size, 3, none⟩ = some (.slice a_x0 zs0.length zs0.length)) (first | exact ⟨KA.1, KA.2.1, KA.2.2.1, KA.2.2.2, KX.1, KX.2.1, KX.2.2.1, KX.2.2.2⟩ | go_keep) (first | (go_at_call 72; refine (c_toC W0 D0 S0 _ _ _ zs0 _ G0.out (H0_3.out.on B6.out.stepD)).mono ?_; rintro e u7 ⟨a_t0, c_t0, rfl, o', x'⟩; have B7 := Lib.hid (B6.out.stepD.trans x'); have BA0_7 := Lib.hid ((BA0_6.out.on (Ext.drew _)).on x'); have Bx0_7 := Lib.hid ((Bx0_6.out.on (Ext.drew _)).on x'); have Os0_7 := Lib.hid ((Os0_6.out.on (Ext.drew _)).on x'); have Ox0_7 := Lib.hid ((Ox0_6.out.on (Ext.drew _)).on x'); have Ot0_7 := Lib.hid (o'.wide (lo' := u6.heap.size) (hi' := u7.heap.size) (by first | omega | (simp; done) | (simp; omega)) (Nat.le_refl _)); have SZ7 := Lib.hid (show u6.heap.size ≤ u7.heap.size from Nat.le_trans (by first | omega | (simp; done) | (simp; omega)) x'.size); have KA := BA0_7.out.four; have KX := Bx0_7.out.four; clear o' x') | (go_at_call 74; refine (c_eqC W0 D0 S0 _ _ _ _ _ zs0 _ G0.out Ox0_7.out.reads Ot0_7.out.reads).mono ?_; rintro e u8 ⟨rfl, x'⟩; have B8 := Lib.hid (B7.out.trans x'); have BA0_8 := Lib.hid (BA0_7.out.on x'); have Bx0_8 := Lib.hid (Bx0_7.out.on x'); have Os0_8 := Lib.hid (Os0_7.out.on x'); have Ox0_8 := Lib.hid (Ox0_7.out.on x'); have Ot0_8 := Lib.hid (Ot0_7.out.on x'); have SZ8 := Lib.hid (show u7.heap.size ≤ u8.heap.size from x'.size); clear KA KX; have KA := BA0_8.out.four; have KX := Bx0_8.out.four; clear x'))
  clear KA KX fA00 fA01 fA02 fA03 fx00 fx01 fx02 fx03
  go_wp2
  go_ret
  exact ⟨rfl, B8.out⟩
end Go.Proofs.Ytfbapbgiegploaa
