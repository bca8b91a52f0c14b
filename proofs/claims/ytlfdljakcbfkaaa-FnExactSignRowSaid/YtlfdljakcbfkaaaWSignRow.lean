/- The walk of the law FnExactSignRow. -/
import Derived.Test.YtlfdljakcbfkaaaVsg
import Derived.Deep.RegionHeld3
import Derived.Deep.DeepCutAuto
import Derived.Deep.LoopGhost
import Derived.WalkLawsBesides
namespace Go.Proofs.Ytlfdljakcbfkaaa
open Go.ChangeShapes Go.WideShapes Go.ChangeAt Go.RowKit
set_option linter.unusedVariables false
open Go.Proofs.Ytlfdljakcbfkaaa.Flo
attribute [local go_sem] run_fl_add run_fl_sub run_fl_mul run_fl_quo run_conv run_store_float run_store_complex
set_option maxHeartbeats 8000000 in
theorem walk_FnExactSignRow (p0 : Option Addr) (len0 cap0 : Nat) (z0 : List Nat) (a1 : Int) (w : World) (w0 : IsFRow .f32 w p0 len0 cap0 z0) (w1 : (Lit.int .i64 a1).wf = true) :
    Calls Try.prog 6 #[.slice p0 len0 cap0, .int .i64 a1] w fun e w' => e = .returned (.bool true) ∧ Below w.heap.size w w' := by
  have FB0 := Lib.hid w0.bits
  obtain ⟨h0, m0⟩ := w0.rd
  obtain ⟨zs0, hz0⟩ : ∃ zs, z0.take len0 = zs := ⟨_, rfl⟩
  rw [hz0] at h0 FB0
  have hl0 := h0.flo.1
  subst hl0
  have H0 := Lib.hid h0; have M0 := Lib.hid m0
  clear hz0 h0 m0 w0
  clear w1
  have B0 := Lib.hid (show Ext w w from Ext.refl w)
  by_cases g0 : 1048576 < zs0.length
  · go_enter Try.func6, Try.ntmps6
    have m' := M0.out
    unfold maxLen at m'
    go_wp2
    go_ret
    exact ⟨rfl, Below.refl _ _⟩
  have G0 := Lib.hid (show zs0.length ≤ 1048576 by omega)
  have gi0 : (zs0.length : Int) ≤ 1048576 := by omega
  obtain ⟨rv0, rb1, hR⟩ : ∃ rv0 rb1, signRowR zs0 a1 = ((rv0 : Option Nat), (rb1 : Bool)) := ⟨_, _, rfl⟩
  have HV := Lib.hid hR
  clear hR
  go_enter Try.func6, Try.ntmps6
  go_wp2_with fail
  refine (c_toG _ _ _ zs0 _ G0.out (H0.out.on B0.out)).mono ?_; rintro e u1 ⟨a1_s0, c1_s0, rfl, o', x'⟩
  have B1 := Lib.hid (B0.out.trans x')
  have Os0_1 := Lib.hid (o'.wide (lo' := w.heap.size) (hi' := u1.heap.size) (by first | omega | (simp; done) | (simp; omega)) (Nat.le_refl _)); clear o'
  have SZ1 := Lib.hid (show w.heap.size ≤ u1.heap.size from Nat.le_trans (by first | omega | (simp; done) | (simp; omega)) x'.size); clear x'
  go_wp2_with fail
  refine (c_spec_SignRow _ _ _ zs0 a1 _ HV.out G0.out Os0_1.out.reads FB0.out).mono ?_; rintro e u2 ⟨fw0, rfl, hv0, x'⟩
  have HVw0 := Lib.hid hv0; clear hv0
  have B2 := Lib.hid (B1.out.trans x')
  have Os0_2 := Lib.hid (Os0_1.out.on x')
  have SZ2 := Lib.hid (show u1.heap.size ≤ u2.heap.size from Nat.le_trans (by first | omega | (simp; done) | (simp; omega)) x'.size); clear x'
  go_wp2_with fail
  refine (c_toG _ _ _ zs0 _ G0.out (H0.out.on B2.out)).mono ?_; rintro e u3 ⟨a1_x0, c1_x0, rfl, o', x'⟩
  have B3 := Lib.hid (B2.out.trans x')
  have Os0_3 := Lib.hid (Os0_2.out.on x')
  have Ox0_3 := Lib.hid (o'.wide (lo' := u2.heap.size) (hi' := u3.heap.size) (by first | omega | (simp; done) | (simp; omega)) (Nat.le_refl _)); clear o'
  have SZ3 := Lib.hid (show u2.heap.size ≤ u3.heap.size from Nat.le_trans (by first | omega | (simp; done) | (simp; omega)) x'.size); clear x'
  go_wp2_with fail
  refine (c_impl_SignRow _ _ _ zs0 a1 _ HV.out G0.out Ox0_3.out.reads FB0.out).mono ?_; rintro e u4 ⟨fg0, rfl, hv0, x'⟩
  have HVg0 := Lib.hid hv0; clear hv0
  have B4 := Lib.hid (B3.out.trans x')
  have Os0_4 := Lib.hid (Os0_3.out.on x')
  have Ox0_4 := Lib.hid (Ox0_3.out.on x')
  have SZ4 := Lib.hid (show u3.heap.size ≤ u4.heap.size from Nat.le_trans (by first | omega | (simp; done) | (simp; omega)) x'.size); clear x'
  go_wp2_with fail
  refine (c_sameFloat _ _ _ (by rw [Flo.fv_wideR, Flo.fv_wideR, HVw0.out, HVg0.out])).mono ?_; rintro e u5 ⟨rfl, hx⟩
  have x' : Ext u4 u5 := by obtain ⟨m, hm⟩ := hx; rw [hm]; first | exact Ext.drewN _ _ | exact (Ext.drewN _ _).trans (Ext.drewN _ _) | exact (Ext.drew _).trans (Ext.drewN _ _)
  clear hx
  have B5 := Lib.hid (B4.out.trans x')
  have Os0_5 := Lib.hid (Os0_4.out.on x')
  have Ox0_5 := Lib.hid (Ox0_4.out.on x')
  have SZ5 := Lib.hid (show u4.heap.size ≤ u5.heap.size from Nat.le_trans (by first | omega | (simp; done) | (simp; omega)) x'.size); clear x'
  go_wp2_with fail
  refine (c_toG _ _ _ zs0 _ G0.out (H0.out.on B5.out)).mono ?_; rintro e u6 ⟨a1_t0, c1_t0, rfl, o', x'⟩
  have B6 := Lib.hid (B5.out.trans x')
  have Os0_6 := Lib.hid (Os0_5.out.on x')
  have Ox0_6 := Lib.hid (Ox0_5.out.on x')
  have Ot0_6 := Lib.hid (o'.wide (lo' := u5.heap.size) (hi' := u6.heap.size) (by first | omega | (simp; done) | (simp; omega)) (Nat.le_refl _)); clear o'
  have SZ6 := Lib.hid (show u5.heap.size ≤ u6.heap.size from Nat.le_trans (by first | omega | (simp; done) | (simp; omega)) x'.size); clear x'
  go_wp2_with fail
  refine (c_eqG_E _ _ _ _ _ zs0 _ G0.out Ox0_6.out.reads Ot0_6.out.reads).mono ?_; rintro e u7 ⟨rfl, x'⟩
  have B7 := Lib.hid (B6.out.trans x')
  have Os0_7 := Lib.hid (Os0_6.out.on x')
  have Ox0_7 := Lib.hid (Ox0_6.out.on x')
  have Ot0_7 := Lib.hid (Ot0_6.out.on x')
  have SZ7 := Lib.hid (show u6.heap.size ≤ u7.heap.size from Nat.le_trans (by first | omega | (simp; done) | (simp; omega)) x'.size); clear x'
  go_wp2
  go_ret
  exact ⟨rfl, B7.out⟩
end Go.Proofs.Ytlfdljakcbfkaaa
