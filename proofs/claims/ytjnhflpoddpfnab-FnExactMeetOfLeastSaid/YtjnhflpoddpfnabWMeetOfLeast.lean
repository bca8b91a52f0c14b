/- The walk of the law FnExactMeetOfLeast. -/
import Derived.Test.YtjnhflpoddpfnabMom
import Derived.Test.YtjnhflpoddpfnabMul
import Derived.Deep.RegionHeld3
import Derived.Deep.DeepCutAuto
import Derived.Deep.LoopGhost
import Derived.WalkLawsBesides
namespace Go.Proofs.Ytjnhflpoddpfnab
open Go.ChangeShapes Go.WideShapes Go.ChangeAt Go.RowKit
set_option linter.unusedVariables false
open Go.Proofs.Ytjnhflpoddpfnab.Flo
attribute [local go_sem] run_fl_add run_fl_sub run_fl_mul run_fl_quo run_conv run_store_float run_store_complex
set_option maxHeartbeats 8000000 in
theorem walk_FnExactMeetOfLeast (p0 : Option Addr) (len0 cap0 : Nat) (z0 : List Int) (p1 : Option Addr) (len1 cap1 : Nat) (z1 : List Int) (a2 : Int) (w : World) (w0 : IsRow .i64 w p0 len0 cap0 z0) (w1 : IsRow .i64 w p1 len1 cap1 z1) (w2 : (Lit.int .i64 a2).wf = true) :
    Calls Try.prog 12 #[.slice p0 len0 cap0, .slice p1 len1 cap1, .int .i64 a2] w fun e w' => e = .returned (.bool true) ∧ Below w.heap.size w w' := by
  obtain ⟨h0, m0⟩ := w0.rd
  obtain ⟨zs0, hz0⟩ : ∃ zs, z0.take len0 = zs := ⟨_, rfl⟩
  rw [hz0] at h0
  have hl0 := h0.int.1
  subst hl0
  have H0 := Lib.hid h0; have M0 := Lib.hid m0
  clear hz0 h0 m0 w0
  obtain ⟨h1, m1⟩ := w1.rd
  obtain ⟨zs1, hz1⟩ : ∃ zs, z1.take len1 = zs := ⟨_, rfl⟩
  rw [hz1] at h1
  have hl1 := h1.int.1
  subst hl1
  have H1 := Lib.hid h1; have M1 := Lib.hid m1
  clear hz1 h1 m1 w1
  clear w2
  have B0 := Lib.hid (show Ext w w from Ext.refl w)
  by_cases g0 : 1048576 < zs0.length
  · go_enter Try.func12, Try.ntmps12
    have m' := M0.out
    unfold maxLen at m'
    go_wp2
    go_ret
    exact ⟨rfl, Below.refl _ _⟩
  have G0 := Lib.hid (show zs0.length ≤ 1048576 by omega)
  have gi0 : (zs0.length : Int) ≤ 1048576 := by omega
  by_cases g1 : 1048576 < zs1.length
  · go_enter Try.func12, Try.ntmps12
    have m' := M1.out
    unfold maxLen at m'
    go_wp2
    go_ret
    exact ⟨rfl, Below.refl _ _⟩
  have G1 := Lib.hid (show zs1.length ≤ 1048576 by omega)
  have gi1 : (zs1.length : Int) ≤ 1048576 := by omega
  obtain ⟨rv0, rb1, hR⟩ : ∃ rv0 rb1, meetR zs0 zs1 a2 = ((rv0 : Option Nat), (rb1 : Bool)) := ⟨_, _, rfl⟩
  have HV := Lib.hid hR
  clear hR
  go_enter Try.func12, Try.ntmps12
  go_wp2_with fail
  refine (c_toI _ _ _ zs0 _ G0.out (H0.out.on B0.out)).mono ?_; rintro e u1 ⟨a1_s0, c1_s0, rfl, o', x'⟩
  have B1 := Lib.hid (B0.out.trans x')
  have Os0_1 := Lib.hid (o'.wide (lo' := w.heap.size) (hi' := u1.heap.size) (by first | omega | (simp; done) | (simp; omega)) (Nat.le_refl _)); clear o'
  have SZ1 := Lib.hid (show w.heap.size ≤ u1.heap.size from Nat.le_trans (by first | omega | (simp; done) | (simp; omega)) x'.size); clear x'
  go_wp2_with fail
  refine (c_toI _ _ _ zs1 _ G1.out (H1.out.on B1.out)).mono ?_; rintro e u2 ⟨a1_s1, c1_s1, rfl, o', x'⟩
  have B2 := Lib.hid (B1.out.trans x')
  have Os0_2 := Lib.hid (Os0_1.out.on x')
  have Os1_2 := Lib.hid (o'.wide (lo' := u1.heap.size) (hi' := u2.heap.size) (by first | omega | (simp; done) | (simp; omega)) (Nat.le_refl _)); clear o'
  have SZ2 := Lib.hid (show u1.heap.size ≤ u2.heap.size from Nat.le_trans (by first | omega | (simp; done) | (simp; omega)) x'.size); clear x'
  go_wp2_with fail
  refine (c_spec_MeetOfLeast _ _ _ zs0 _ _ _ zs1 a2 _ HV.out G0.out Os0_2.out.reads G1.out Os1_2.out.reads Os0_2.out.sln Os1_2.out.sln).mono ?_; rintro e u3 ⟨fw0, rfl, hv0, x'⟩
  have HVw0 := Lib.hid hv0; clear hv0
  have B3 := Lib.hid (B2.out.trans x')
  have Os0_3 := Lib.hid (Os0_2.out.on x')
  have Os1_3 := Lib.hid (Os1_2.out.on x')
  have SZ3 := Lib.hid (show u2.heap.size ≤ u3.heap.size from Nat.le_trans (by first | omega | (simp; done) | (simp; omega)) x'.size); clear x'
  go_wp2_with fail
  refine (c_toI _ _ _ zs0 _ G0.out (H0.out.on B3.out)).mono ?_; rintro e u4 ⟨a1_x0, c1_x0, rfl, o', x'⟩
  have B4 := Lib.hid (B3.out.trans x')
  have Os0_4 := Lib.hid (Os0_3.out.on x')
  have Os1_4 := Lib.hid (Os1_3.out.on x')
  have Ox0_4 := Lib.hid (o'.wide (lo' := u3.heap.size) (hi' := u4.heap.size) (by first | omega | (simp; done) | (simp; omega)) (Nat.le_refl _)); clear o'
  have SZ4 := Lib.hid (show u3.heap.size ≤ u4.heap.size from Nat.le_trans (by first | omega | (simp; done) | (simp; omega)) x'.size); clear x'
  go_wp2_with fail
  refine (c_toI _ _ _ zs1 _ G1.out (H1.out.on B4.out)).mono ?_; rintro e u5 ⟨a1_x1, c1_x1, rfl, o', x'⟩
  have B5 := Lib.hid (B4.out.trans x')
  have Os0_5 := Lib.hid (Os0_4.out.on x')
  have Os1_5 := Lib.hid (Os1_4.out.on x')
  have Ox0_5 := Lib.hid (Ox0_4.out.on x')
  have Ox1_5 := Lib.hid (o'.wide (lo' := u4.heap.size) (hi' := u5.heap.size) (by first | omega | (simp; done) | (simp; omega)) (Nat.le_refl _)); clear o'
  have SZ5 := Lib.hid (show u4.heap.size ≤ u5.heap.size from Nat.le_trans (by first | omega | (simp; done) | (simp; omega)) x'.size); clear x'
  go_wp2_with fail
  refine (c_impl_MeetOfLeast _ _ _ zs0 _ _ _ zs1 a2 _ HV.out G0.out Ox0_5.out.reads G1.out Ox1_5.out.reads Ox0_5.out.sln Ox1_5.out.sln).mono ?_; rintro e u6 ⟨fg0, rfl, hv0, x'⟩
  have HVg0 := Lib.hid hv0; clear hv0
  have B6 := Lib.hid (B5.out.trans x')
  have Os0_6 := Lib.hid (Os0_5.out.on x')
  have Os1_6 := Lib.hid (Os1_5.out.on x')
  have Ox0_6 := Lib.hid (Ox0_5.out.on x')
  have Ox1_6 := Lib.hid (Ox1_5.out.on x')
  have SZ6 := Lib.hid (show u5.heap.size ≤ u6.heap.size from Nat.le_trans (by first | omega | (simp; done) | (simp; omega)) x'.size); clear x'
  go_wp2_with fail
  refine (c_sameFloat _ _ _ (by rw [Flo.fv_wideR, Flo.fv_wideR, HVw0.out, HVg0.out])).mono ?_; rintro e u7 ⟨rfl, hx⟩
  have x' : Ext u6 u7 := by obtain ⟨m, hm⟩ := hx; rw [hm]; first | exact Ext.drewN _ _ | exact (Ext.drewN _ _).trans (Ext.drewN _ _) | exact (Ext.drew _).trans (Ext.drewN _ _)
  clear hx
  have B7 := Lib.hid (B6.out.trans x')
  have Os0_7 := Lib.hid (Os0_6.out.on x')
  have Os1_7 := Lib.hid (Os1_6.out.on x')
  have Ox0_7 := Lib.hid (Ox0_6.out.on x')
  have Ox1_7 := Lib.hid (Ox1_6.out.on x')
  have SZ7 := Lib.hid (show u6.heap.size ≤ u7.heap.size from Nat.le_trans (by first | omega | (simp; done) | (simp; omega)) x'.size); clear x'
  go_wp2_with fail
  refine (c_toI _ _ _ zs0 _ G0.out (H0.out.on B7.out)).mono ?_; rintro e u8 ⟨a1_t0, c1_t0, rfl, o', x'⟩
  have B8 := Lib.hid (B7.out.trans x')
  have Os0_8 := Lib.hid (Os0_7.out.on x')
  have Os1_8 := Lib.hid (Os1_7.out.on x')
  have Ox0_8 := Lib.hid (Ox0_7.out.on x')
  have Ox1_8 := Lib.hid (Ox1_7.out.on x')
  have Ot0_8 := Lib.hid (o'.wide (lo' := u7.heap.size) (hi' := u8.heap.size) (by first | omega | (simp; done) | (simp; omega)) (Nat.le_refl _)); clear o'
  have SZ8 := Lib.hid (show u7.heap.size ≤ u8.heap.size from Nat.le_trans (by first | omega | (simp; done) | (simp; omega)) x'.size); clear x'
  go_wp2_with fail
  refine (c_eqI_E _ _ _ _ _ zs0 _ G0.out Ox0_8.out.reads Ot0_8.out.reads).mono ?_; rintro e u9 ⟨rfl, x'⟩
  have B9 := Lib.hid (B8.out.trans x')
  have Os0_9 := Lib.hid (Os0_8.out.on x')
  have Os1_9 := Lib.hid (Os1_8.out.on x')
  have Ox0_9 := Lib.hid (Ox0_8.out.on x')
  have Ox1_9 := Lib.hid (Ox1_8.out.on x')
  have Ot0_9 := Lib.hid (Ot0_8.out.on x')
  have SZ9 := Lib.hid (show u8.heap.size ≤ u9.heap.size from Nat.le_trans (by first | omega | (simp; done) | (simp; omega)) x'.size); clear x'
  go_wp2_with fail
  refine (c_toI _ _ _ zs1 _ G1.out (H1.out.on B9.out)).mono ?_; rintro e u10 ⟨a1_t1, c1_t1, rfl, o', x'⟩
  have B10 := Lib.hid (B9.out.trans x')
  have Os0_10 := Lib.hid (Os0_9.out.on x')
  have Os1_10 := Lib.hid (Os1_9.out.on x')
  have Ox0_10 := Lib.hid (Ox0_9.out.on x')
  have Ox1_10 := Lib.hid (Ox1_9.out.on x')
  have Ot0_10 := Lib.hid (Ot0_9.out.on x')
  have Ot1_10 := Lib.hid (o'.wide (lo' := u9.heap.size) (hi' := u10.heap.size) (by first | omega | (simp; done) | (simp; omega)) (Nat.le_refl _)); clear o'
  have SZ10 := Lib.hid (show u9.heap.size ≤ u10.heap.size from Nat.le_trans (by first | omega | (simp; done) | (simp; omega)) x'.size); clear x'
  go_wp2_with fail
  refine (c_eqI_E _ _ _ _ _ zs1 _ G1.out Ox1_10.out.reads Ot1_10.out.reads).mono ?_; rintro e u11 ⟨rfl, x'⟩
  have B11 := Lib.hid (B10.out.trans x')
  have Os0_11 := Lib.hid (Os0_10.out.on x')
  have Os1_11 := Lib.hid (Os1_10.out.on x')
  have Ox0_11 := Lib.hid (Ox0_10.out.on x')
  have Ox1_11 := Lib.hid (Ox1_10.out.on x')
  have Ot0_11 := Lib.hid (Ot0_10.out.on x')
  have Ot1_11 := Lib.hid (Ot1_10.out.on x')
  have SZ11 := Lib.hid (show u10.heap.size ≤ u11.heap.size from Nat.le_trans (by first | omega | (simp; done) | (simp; omega)) x'.size); clear x'
  go_wp2
  go_ret
  exact ⟨rfl, B11.out⟩
end Go.Proofs.Ytjnhflpoddpfnab
