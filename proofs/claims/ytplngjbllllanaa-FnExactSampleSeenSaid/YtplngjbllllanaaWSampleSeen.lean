/- The walk of the law FnExactSampleSeen. -/
import Derived.Test.YtplngjbllllanaaSmd
import Derived.Test.YtplngjbllllanaaMul
import Derived.Deep.RegionHeld3
import Derived.Deep.DeepCutAuto
import Derived.Deep.LoopGhost
import Derived.WalkLawsBesides
namespace Go.Proofs.Ytplngjbllllanaa
open Go.ChangeShapes Go.WideShapes Go.ChangeAt Go.RowKit
set_option linter.unusedVariables false
set_option maxHeartbeats 8000000 in
theorem walk_FnExactSampleSeen (p0 : Option Addr) (len0 cap0 : Nat) (z0 : List Int) (a1 : Int) (w : World) (w0 : IsRow .i64 w p0 len0 cap0 z0) (w1 : (Lit.int .i64 a1).wf = true) :
    Calls Try.prog 10 #[.slice p0 len0 cap0, .int .i64 a1] w fun e w' => e = .returned (.bool true) ∧ Below w.heap.size w w' := by
  obtain ⟨h0, m0⟩ := w0.rd
  obtain ⟨zs0, hz0⟩ : ∃ zs, z0.take len0 = zs := ⟨_, rfl⟩
  rw [hz0] at h0
  have hl0 := h0.int.1
  subst hl0
  have H0 := Lib.hid h0; have M0 := Lib.hid m0
  clear hz0 h0 m0 w0
  clear w1
  have B0 := Lib.hid (show Ext w w from Ext.refl w)
  by_cases g0 : 1048576 < zs0.length
  · go_enter Try.func10, Try.ntmps10
    have m' := M0.out
    unfold maxLen at m'
    go_wp2
    go_ret
    exact ⟨rfl, Below.refl _ _⟩
  have G0 := Lib.hid (show zs0.length ≤ 1048576 by omega)
  have gi0 : (zs0.length : Int) ≤ 1048576 := by omega
  obtain ⟨rz0, rb1, hR⟩ : ∃ rz0 rb1, seenR zs0 a1 = ((rz0 : List Int), (rb1 : Bool)) := ⟨_, _, rfl⟩
  have RL0 := Lib.hid (show rz0.length ≤ 1048576 from seenR_le hR)
  have HV := Lib.hid hR
  clear hR
  go_enter Try.func10, Try.ntmps10
  go_wp2_with fail
  refine (c_toI _ _ _ zs0 _ G0.out (H0.out.on B0.out)).mono ?_; rintro e u1 ⟨a1_s0, c1_s0, rfl, o', x'⟩
  have B1 := Lib.hid (B0.out.trans x')
  have Os0_1 := Lib.hid (o'.wide (lo' := w.heap.size) (hi' := u1.heap.size) (by first | omega | (simp; done) | (simp; omega)) (Nat.le_refl _)); clear o'
  have SZ1 := Lib.hid (show w.heap.size ≤ u1.heap.size from Nat.le_trans (by first | omega | (simp; done) | (simp; omega)) x'.size); clear x'
  go_wp2_with fail
  refine (c_spec_SampleSeen _ _ _ zs0 a1 _ HV.out G0.out Os0_1.out.reads).mono ?_; rintro e u2 ⟨a1_w0, c1_w0, rfl, o0', x'⟩
  have B2 := Lib.hid (B1.out.trans x')
  have Os0_2 := Lib.hid (Os0_1.out.on x')
  have Ow0_2 := Lib.hid (o0'.wide (lo' := u1.heap.size) (hi' := u2.heap.size) (by first | omega | (simp; done) | (simp; omega)) (Nat.le_refl _)); clear o0'
  have SZ2 := Lib.hid (show u1.heap.size ≤ u2.heap.size from Nat.le_trans (by first | omega | (simp; done) | (simp; omega)) x'.size); clear x'
  go_wp2_with fail
  refine (c_toI _ _ _ zs0 _ G0.out (H0.out.on B2.out)).mono ?_; rintro e u3 ⟨a1_x0, c1_x0, rfl, o', x'⟩
  have B3 := Lib.hid (B2.out.trans x')
  have Os0_3 := Lib.hid (Os0_2.out.on x')
  have Ow0_3 := Lib.hid (Ow0_2.out.on x')
  have Ox0_3 := Lib.hid (o'.wide (lo' := u2.heap.size) (hi' := u3.heap.size) (by first | omega | (simp; done) | (simp; omega)) (Nat.le_refl _)); clear o'
  have SZ3 := Lib.hid (show u2.heap.size ≤ u3.heap.size from Nat.le_trans (by first | omega | (simp; done) | (simp; omega)) x'.size); clear x'
  go_wp2_with fail
  refine (c_impl_SampleSeen _ _ _ zs0 a1 _ HV.out G0.out Ox0_3.out.reads).mono ?_; rintro e u4 ⟨a1_g0, c1_g0, rfl, o0', x'⟩
  have B4 := Lib.hid (B3.out.trans x')
  have Os0_4 := Lib.hid (Os0_3.out.on x')
  have Ow0_4 := Lib.hid (Ow0_3.out.on x')
  have Ox0_4 := Lib.hid (Ox0_3.out.on x')
  have Og0_4 := Lib.hid (o0'.wide (lo' := u3.heap.size) (hi' := u4.heap.size) (by first | omega | (simp; done) | (simp; omega)) (Nat.le_refl _)); clear o0'
  have SZ4 := Lib.hid (show u3.heap.size ≤ u4.heap.size from Nat.le_trans (by first | omega | (simp; done) | (simp; omega)) x'.size); clear x'
  go_wp2_with fail
  refine (c_eqI_E _ _ _ _ _ rz0 _ RL0.out Og0_4.out.reads Ow0_4.out.reads).mono ?_; rintro e u5 ⟨rfl, x'⟩
  have B5 := Lib.hid (B4.out.trans x')
  have Os0_5 := Lib.hid (Os0_4.out.on x')
  have Ow0_5 := Lib.hid (Ow0_4.out.on x')
  have Ox0_5 := Lib.hid (Ox0_4.out.on x')
  have Og0_5 := Lib.hid (Og0_4.out.on x')
  have SZ5 := Lib.hid (show u4.heap.size ≤ u5.heap.size from Nat.le_trans (by first | omega | (simp; done) | (simp; omega)) x'.size); clear x'
  go_wp2_with fail
  refine (c_toI _ _ _ zs0 _ G0.out (H0.out.on B5.out)).mono ?_; rintro e u6 ⟨a1_t0, c1_t0, rfl, o', x'⟩
  have B6 := Lib.hid (B5.out.trans x')
  have Os0_6 := Lib.hid (Os0_5.out.on x')
  have Ow0_6 := Lib.hid (Ow0_5.out.on x')
  have Ox0_6 := Lib.hid (Ox0_5.out.on x')
  have Og0_6 := Lib.hid (Og0_5.out.on x')
  have Ot0_6 := Lib.hid (o'.wide (lo' := u5.heap.size) (hi' := u6.heap.size) (by first | omega | (simp; done) | (simp; omega)) (Nat.le_refl _)); clear o'
  have SZ6 := Lib.hid (show u5.heap.size ≤ u6.heap.size from Nat.le_trans (by first | omega | (simp; done) | (simp; omega)) x'.size); clear x'
  go_wp2_with fail
  refine (c_eqI_E _ _ _ _ _ zs0 _ G0.out Ox0_6.out.reads Ot0_6.out.reads).mono ?_; rintro e u7 ⟨rfl, x'⟩
  have B7 := Lib.hid (B6.out.trans x')
  have Os0_7 := Lib.hid (Os0_6.out.on x')
  have Ow0_7 := Lib.hid (Ow0_6.out.on x')
  have Ox0_7 := Lib.hid (Ox0_6.out.on x')
  have Og0_7 := Lib.hid (Og0_6.out.on x')
  have Ot0_7 := Lib.hid (Ot0_6.out.on x')
  have SZ7 := Lib.hid (show u6.heap.size ≤ u7.heap.size from Nat.le_trans (by first | omega | (simp; done) | (simp; omega)) x'.size); clear x'
  obtain ⟨kk1, hkk⟩ : ∃ k : Nat, 1 + zs0.length = k := ⟨_, rfl⟩; have HKK1 := Lib.hid hkk; have hpos1 : (0 : Int) ≤ (kk1 : Int) := by omega
  clear hkk
  go_wp2_with fail
  refine (c_markI (u2.heap.size) (u3.heap.size) _ _ _ 1 _ _ G0.out (by decide) Ox0_7.out).mono ?_; rintro e u8 ⟨he, o', t'⟩; rw [HKK1.out] at he; subst he
  have B8 := Lib.hid (Touch.ext B7.out t' (by have := SZ1.out; have := SZ2.out; have := SZ3.out; have := SZ4.out; have := SZ5.out; have := SZ6.out; have := SZ7.out; omega))
  have Os0_8 := Lib.hid (Os0_7.out.beside t' (by have := SZ1.out; have := SZ2.out; have := SZ3.out; have := SZ4.out; have := SZ5.out; have := SZ6.out; have := SZ7.out; omega))
  have Ow0_8 := Lib.hid (Ow0_7.out.beside t' (by have := SZ1.out; have := SZ2.out; have := SZ3.out; have := SZ4.out; have := SZ5.out; have := SZ6.out; have := SZ7.out; omega))
  have Og0_8 := Lib.hid (Og0_7.out.beside t' (by have := SZ1.out; have := SZ2.out; have := SZ3.out; have := SZ4.out; have := SZ5.out; have := SZ6.out; have := SZ7.out; omega))
  have Ot0_8 := Lib.hid (Ot0_7.out.beside t' (by have := SZ1.out; have := SZ2.out; have := SZ3.out; have := SZ4.out; have := SZ5.out; have := SZ6.out; have := SZ7.out; omega))
  have Ox0_8 := Lib.hid o'
  have SZ8 := Lib.hid (show u7.heap.size ≤ u8.heap.size from Nat.le_trans (by first | omega | (simp; done) | (simp; omega)) t'.size); clear o' t'
  go_wp2_with fail
  refine (c_eqI_E _ _ _ _ _ rz0 _ RL0.out Og0_8.out.reads Ow0_8.out.reads).mono ?_; rintro e u9 ⟨rfl, x'⟩
  have B9 := Lib.hid (B8.out.trans x')
  have Os0_9 := Lib.hid (Os0_8.out.on x')
  have Ow0_9 := Lib.hid (Ow0_8.out.on x')
  have Ox0_9 := Lib.hid (Ox0_8.out.on x')
  have Og0_9 := Lib.hid (Og0_8.out.on x')
  have Ot0_9 := Lib.hid (Ot0_8.out.on x')
  have SZ9 := Lib.hid (show u8.heap.size ≤ u9.heap.size from Nat.le_trans (by first | omega | (simp; done) | (simp; omega)) x'.size); clear x'
  obtain ⟨kk2, hkk⟩ : ∃ k : Nat, 1 + rz0.length = k := ⟨_, rfl⟩; have HKK2 := Lib.hid hkk; have hpos2 : (0 : Int) ≤ (kk2 : Int) := by omega
  clear hkk
  go_wp2_with fail
  refine (c_markI (u3.heap.size) (u4.heap.size) _ _ _ 1 _ _ RL0.out (by decide) Og0_9.out).mono ?_; rintro e u10 ⟨he, o', t'⟩; rw [HKK2.out] at he; subst he
  have B10 := Lib.hid (Touch.ext B9.out t' (by have := SZ1.out; have := SZ2.out; have := SZ3.out; have := SZ4.out; have := SZ5.out; have := SZ6.out; have := SZ7.out; have := SZ8.out; have := SZ9.out; omega))
  have Os0_10 := Lib.hid (Os0_9.out.beside t' (by have := SZ1.out; have := SZ2.out; have := SZ3.out; have := SZ4.out; have := SZ5.out; have := SZ6.out; have := SZ7.out; have := SZ8.out; have := SZ9.out; omega))
  have Ow0_10 := Lib.hid (Ow0_9.out.beside t' (by have := SZ1.out; have := SZ2.out; have := SZ3.out; have := SZ4.out; have := SZ5.out; have := SZ6.out; have := SZ7.out; have := SZ8.out; have := SZ9.out; omega))
  have Ox0_10 := Lib.hid (Ox0_9.out.beside t' (by have := SZ1.out; have := SZ2.out; have := SZ3.out; have := SZ4.out; have := SZ5.out; have := SZ6.out; have := SZ7.out; have := SZ8.out; have := SZ9.out; omega))
  have Ot0_10 := Lib.hid (Ot0_9.out.beside t' (by have := SZ1.out; have := SZ2.out; have := SZ3.out; have := SZ4.out; have := SZ5.out; have := SZ6.out; have := SZ7.out; have := SZ8.out; have := SZ9.out; omega))
  have Og0_10 := Lib.hid o'
  have SZ10 := Lib.hid (show u9.heap.size ≤ u10.heap.size from Nat.le_trans (by first | omega | (simp; done) | (simp; omega)) t'.size); clear o' t'
  go_wp2_with fail
  refine (c_heldI_E _ _ _ 1 _ RL0.out (by decide) Og0_10.out.reads).mono ?_; rintro e u11 ⟨he, x'⟩; rw [HKK2.out] at he; subst he
  have B11 := Lib.hid (B10.out.trans x')
  have Os0_11 := Lib.hid (Os0_10.out.on x')
  have Ow0_11 := Lib.hid (Ow0_10.out.on x')
  have Ox0_11 := Lib.hid (Ox0_10.out.on x')
  have Og0_11 := Lib.hid (Og0_10.out.on x')
  have Ot0_11 := Lib.hid (Ot0_10.out.on x')
  have SZ11 := Lib.hid (show u10.heap.size ≤ u11.heap.size from Nat.le_trans (by first | omega | (simp; done) | (simp; omega)) x'.size); clear x'
  go_wp2_with fail
  refine (c_toI _ _ _ zs0 _ G0.out (H0.out.on B11.out)).mono ?_; rintro e u12 ⟨a1_y0, c1_y0, rfl, o', x'⟩
  have B12 := Lib.hid (B11.out.trans x')
  have Os0_12 := Lib.hid (Os0_11.out.on x')
  have Ow0_12 := Lib.hid (Ow0_11.out.on x')
  have Ox0_12 := Lib.hid (Ox0_11.out.on x')
  have Og0_12 := Lib.hid (Og0_11.out.on x')
  have Ot0_12 := Lib.hid (Ot0_11.out.on x')
  have Oy0_12 := Lib.hid (o'.wide (lo' := u11.heap.size) (hi' := u12.heap.size) (by first | omega | (simp; done) | (simp; omega)) (Nat.le_refl _)); clear o'
  have SZ12 := Lib.hid (show u11.heap.size ≤ u12.heap.size from Nat.le_trans (by first | omega | (simp; done) | (simp; omega)) x'.size); clear x'
  go_wp2_with fail
  refine (c_impl_SampleSeen _ _ _ zs0 a1 _ HV.out G0.out Oy0_12.out.reads).mono ?_; rintro e u13 ⟨a1_h0, c1_h0, rfl, o0', x'⟩
  have B13 := Lib.hid (B12.out.trans x')
  have Os0_13 := Lib.hid (Os0_12.out.on x')
  have Ow0_13 := Lib.hid (Ow0_12.out.on x')
  have Ox0_13 := Lib.hid (Ox0_12.out.on x')
  have Og0_13 := Lib.hid (Og0_12.out.on x')
  have Ot0_13 := Lib.hid (Ot0_12.out.on x')
  have Oy0_13 := Lib.hid (Oy0_12.out.on x')
  have Oh0_13 := Lib.hid (o0'.wide (lo' := u12.heap.size) (hi' := u13.heap.size) (by first | omega | (simp; done) | (simp; omega)) (Nat.le_refl _)); clear o0'
  have SZ13 := Lib.hid (show u12.heap.size ≤ u13.heap.size from Nat.le_trans (by first | omega | (simp; done) | (simp; omega)) x'.size); clear x'
  go_wp2_with fail
  refine (c_eqI_E _ _ _ _ _ rz0 _ RL0.out Oh0_13.out.reads Ow0_13.out.reads).mono ?_; rintro e u14 ⟨rfl, x'⟩
  have B14 := Lib.hid (B13.out.trans x')
  have Os0_14 := Lib.hid (Os0_13.out.on x')
  have Ow0_14 := Lib.hid (Ow0_13.out.on x')
  have Ox0_14 := Lib.hid (Ox0_13.out.on x')
  have Og0_14 := Lib.hid (Og0_13.out.on x')
  have Ot0_14 := Lib.hid (Ot0_13.out.on x')
  have Oy0_14 := Lib.hid (Oy0_13.out.on x')
  have Oh0_14 := Lib.hid (Oh0_13.out.on x')
  have SZ14 := Lib.hid (show u13.heap.size ≤ u14.heap.size from Nat.le_trans (by first | omega | (simp; done) | (simp; omega)) x'.size); clear x'
  go_wp2_with fail
  refine (c_heldI_E _ _ _ 1 _ RL0.out (by decide) Og0_14.out.reads).mono ?_; rintro e u15 ⟨he, x'⟩; rw [HKK2.out] at he; subst he
  have B15 := Lib.hid (B14.out.trans x')
  have Os0_15 := Lib.hid (Os0_14.out.on x')
  have Ow0_15 := Lib.hid (Ow0_14.out.on x')
  have Ox0_15 := Lib.hid (Ox0_14.out.on x')
  have Og0_15 := Lib.hid (Og0_14.out.on x')
  have Ot0_15 := Lib.hid (Ot0_14.out.on x')
  have Oy0_15 := Lib.hid (Oy0_14.out.on x')
  have Oh0_15 := Lib.hid (Oh0_14.out.on x')
  have SZ15 := Lib.hid (show u14.heap.size ≤ u15.heap.size from Nat.le_trans (by first | omega | (simp; done) | (simp; omega)) x'.size); clear x'
  go_wp2
  go_ret
  exact ⟨rfl, B15.out⟩
end Go.Proofs.Ytplngjbllllanaa
