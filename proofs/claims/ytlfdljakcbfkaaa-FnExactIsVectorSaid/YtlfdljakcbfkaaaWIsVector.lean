/- The walk of the law FnExactIsVector. -/
import Derived.Test.YtlfdljakcbfkaaaVec
import Derived.Deep.RegionHeld3
import Derived.Deep.DeepCutAuto
import Derived.Deep.LoopGhost
import Derived.WalkLawsBesides
namespace Go.Proofs.Ytlfdljakcbfkaaa
open Go.ChangeShapes Go.WideShapes Go.ChangeAt Go.RowKit
set_option linter.unusedVariables false
open Go.Proofs.Ytlfdljakcbfkaaa.Flo
set_option maxHeartbeats 8000000 in
theorem walk_FnExactIsVector (p0 : Option Addr) (len0 cap0 : Nat) (z0 : List Nat) (w : World) (w0 : IsFRow .f32 w p0 len0 cap0 z0) :
    Calls Try.prog 3 #[.slice p0 len0 cap0] w fun e w' => e = .returned (.bool true) ∧ Below w.heap.size w w' := by
  have FB0 := Lib.hid w0.bits
  obtain ⟨h0, m0⟩ := w0.rd
  obtain ⟨zs0, hz0⟩ : ∃ zs, z0.take len0 = zs := ⟨_, rfl⟩
  rw [hz0] at h0 FB0
  have hl0 := h0.flo.1
  subst hl0
  have H0 := Lib.hid h0; have M0 := Lib.hid m0
  clear hz0 h0 m0 w0
  have B0 := Lib.hid (show Ext w w from Ext.refl w)
  by_cases g0 : 1048576 < zs0.length
  · go_enter Try.func3, Try.ntmps3
    have m' := M0.out
    unfold maxLen at m'
    go_wp2
    go_ret
    exact ⟨rfl, Below.refl _ _⟩
  have G0 := Lib.hid (show zs0.length ≤ 1048576 by omega)
  have gi0 : (zs0.length : Int) ≤ 1048576 := by omega
  obtain ⟨rb0, hR⟩ : ∃ rb0, vecB zs0 = (rb0 : Bool) := ⟨_, rfl⟩
  have HV := Lib.hid hR
  clear hR
  go_enter Try.func3, Try.ntmps3
  go_wp2_with fail
  refine (c_toG _ _ _ zs0 _ G0.out (H0.out.on B0.out)).mono ?_; rintro e u1 ⟨a1_s0, c1_s0, rfl, o', x'⟩
  have B1 := Lib.hid (B0.out.trans x')
  have Os0_1 := Lib.hid (o'.wide (lo' := w.heap.size) (hi' := u1.heap.size) (by first | omega | (simp; done) | (simp; omega)) (Nat.le_refl _)); clear o'
  have SZ1 := Lib.hid (show w.heap.size ≤ u1.heap.size from Nat.le_trans (by first | omega | (simp; done) | (simp; omega)) x'.size); clear x'
  go_wp2_with fail
  refine (c_spec_IsVector _ _ _ zs0 _ HV.out G0.out Os0_1.out.reads FB0.out).mono ?_; rintro e u2 ⟨rfl, x'⟩
  have B2 := Lib.hid (B1.out.trans x')
  have Os0_2 := Lib.hid (Os0_1.out.on x')
  have SZ2 := Lib.hid (show u1.heap.size ≤ u2.heap.size from Nat.le_trans (by first | omega | (simp; done) | (simp; omega)) x'.size); clear x'
  go_wp2_with fail
  refine (c_toG _ _ _ zs0 _ G0.out (H0.out.on B2.out)).mono ?_; rintro e u3 ⟨a1_x0, c1_x0, rfl, o', x'⟩
  have B3 := Lib.hid (B2.out.trans x')
  have Os0_3 := Lib.hid (Os0_2.out.on x')
  have Ox0_3 := Lib.hid (o'.wide (lo' := u2.heap.size) (hi' := u3.heap.size) (by first | omega | (simp; done) | (simp; omega)) (Nat.le_refl _)); clear o'
  have SZ3 := Lib.hid (show u2.heap.size ≤ u3.heap.size from Nat.le_trans (by first | omega | (simp; done) | (simp; omega)) x'.size); clear x'
  go_wp2_with fail
  refine (c_impl_IsVector _ _ _ zs0 _ HV.out G0.out Ox0_3.out.reads FB0.out).mono ?_; rintro e u4 ⟨rfl, x'⟩
  have B4 := Lib.hid (B3.out.trans x')
  have Os0_4 := Lib.hid (Os0_3.out.on x')
  have Ox0_4 := Lib.hid (Ox0_3.out.on x')
  have SZ4 := Lib.hid (show u3.heap.size ≤ u4.heap.size from Nat.le_trans (by first | omega | (simp; done) | (simp; omega)) x'.size); clear x'
  go_wp2_with fail
  refine (c_toG _ _ _ zs0 _ G0.out (H0.out.on B4.out)).mono ?_; rintro e u5 ⟨a1_t0, c1_t0, rfl, o', x'⟩
  have B5 := Lib.hid (B4.out.trans x')
  have Os0_5 := Lib.hid (Os0_4.out.on x')
  have Ox0_5 := Lib.hid (Ox0_4.out.on x')
  have Ot0_5 := Lib.hid (o'.wide (lo' := u4.heap.size) (hi' := u5.heap.size) (by first | omega | (simp; done) | (simp; omega)) (Nat.le_refl _)); clear o'
  have SZ5 := Lib.hid (show u4.heap.size ≤ u5.heap.size from Nat.le_trans (by first | omega | (simp; done) | (simp; omega)) x'.size); clear x'
  go_wp2_with fail
  refine (c_eqG_E _ _ _ _ _ zs0 _ G0.out Ox0_5.out.reads Ot0_5.out.reads).mono ?_; rintro e u6 ⟨rfl, x'⟩
  have B6 := Lib.hid (B5.out.trans x')
  have Os0_6 := Lib.hid (Os0_5.out.on x')
  have Ox0_6 := Lib.hid (Ox0_5.out.on x')
  have Ot0_6 := Lib.hid (Ot0_5.out.on x')
  have SZ6 := Lib.hid (show u5.heap.size ≤ u6.heap.size from Nat.le_trans (by first | omega | (simp; done) | (simp; omega)) x'.size); clear x'
  go_wp2
  go_ret
  exact ⟨rfl, B6.out⟩
end Go.Proofs.Ytlfdljakcbfkaaa
