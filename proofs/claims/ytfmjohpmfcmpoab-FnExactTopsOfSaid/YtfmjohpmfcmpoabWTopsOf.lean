/- The walk of the law FnExactTopsOf. -/
import Derived.Test.YtfmjohpmfcmpoabTpv
import Derived.Deep.RegionHeld3
import Derived.Deep.DeepCutAuto
import Derived.Deep.LoopGhost
import Derived.WalkLawsBesides
namespace Go.Proofs.Ytfmjohpmfcmpoab
open Go.ChangeShapes Go.WideShapes Go.ChangeAt Go.RowKit
set_option linter.unusedVariables false
set_option maxHeartbeats 8000000 in
theorem walk_FnExactTopsOf (a0 : Int) (p1 : Option Addr) (len1 cap1 : Nat) (z1 : List Int) (w : World) (w0 : (Lit.int .i64 a0).wf = true) (w1 : IsRow .i64 w p1 len1 cap1 z1) :
    Calls Try.prog 4 #[.int .i64 a0, .slice p1 len1 cap1] w fun e w' => e = .returned (.bool true) ∧ Below w.heap.size w w' := by
  clear w0
  obtain ⟨h1, m1⟩ := w1.rd
  obtain ⟨zs1, hz1⟩ : ∃ zs, z1.take len1 = zs := ⟨_, rfl⟩
  rw [hz1] at h1
  have hl1 := h1.int.1
  subst hl1
  have H1 := Lib.hid h1; have M1 := Lib.hid m1
  clear hz1 h1 m1 w1
  have B0 := Lib.hid (show Ext w w from Ext.refl w)
  by_cases g1 : 1048576 < zs1.length
  · go_enter Try.func4, Try.ntmps4
    have m' := M1.out
    unfold maxLen at m'
    go_wp2
    go_ret
    exact ⟨rfl, Below.refl _ _⟩
  have G1 := Lib.hid (show zs1.length ≤ 1048576 by omega)
  have gi1 : (zs1.length : Int) ≤ 1048576 := by omega
  obtain ⟨r0R, rz0_1, rz0_2, rz0_3, rb1, hR⟩ : ∃ r0R rz0_1 rz0_2 rz0_3 rb1, topsV a0 zs1 = ((⟨r0R, rz0_1, rz0_2, rz0_3⟩ : PV), (rb1 : Bool)) := ⟨_, _, _, _, _, rfl⟩
  have RL0 := Lib.hid (show rz0_1.length + rz0_2.length + rz0_3.length ≤ 1048576 from topsV_le hR)
  have HV := Lib.hid hR
  clear hR
  go_enter Try.func4, Try.ntmps4
  go_wp2_with fail
  refine (c_toI _ _ _ zs1 _ G1.out (H1.out.on B0.out)).mono ?_; rintro e u1 ⟨a1_s1, c1_s1, rfl, o', x'⟩
  have B1 := Lib.hid (B0.out.trans x')
  have Os1_1 := Lib.hid (o'.wide (lo' := w.heap.size) (hi' := u1.heap.size) (by first | omega | (simp; done) | (simp; omega)) (Nat.le_refl _)); clear o'
  have SZ1 := Lib.hid (show w.heap.size ≤ u1.heap.size from Nat.le_trans (by first | omega | (simp; done) | (simp; omega)) x'.size); clear x'
  go_wp2_with fail
  refine (c_spec_TopsOf a0 _ _ _ zs1 _ HV.out G1.out Os1_1.out.reads).mono ?_; rintro e u2 ⟨a1_w0, c1_w0, a2_w0, c2_w0, a3_w0, c3_w0, rfl, o0', x'⟩
  have B2 := Lib.hid (B1.out.trans x')
  have Os1_2 := Lib.hid (Os1_1.out.on x')
  have Ow0_2 := Lib.hid (o0'.wide (lo' := u1.heap.size) (hi' := u2.heap.size) (by first | omega | (simp; done) | (simp; omega)) (Nat.le_refl _)); clear o0'
  have SZ2 := Lib.hid (show u1.heap.size ≤ u2.heap.size from Nat.le_trans (by first | omega | (simp; done) | (simp; omega)) x'.size); clear x'
  replace B2 := Lib.hid (B2.out.stepA (.cells #[.int .i64 r0R, .slice a1_w0 rz0_1.length c1_w0, .slice a2_w0 rz0_2.length c2_w0, .slice a3_w0 rz0_3.length c3_w0] 26))
  replace Os1_2 := Lib.hid (Os1_2.out.on (Ext.alloc u2 (.cells #[.int .i64 r0R, .slice a1_w0 rz0_1.length c1_w0, .slice a2_w0 rz0_2.length c2_w0, .slice a3_w0 rz0_3.length c3_w0] 26)))
  replace Ow0_2 := Lib.hid (Ow0_2.out.on (Ext.alloc u2 (.cells #[.int .i64 r0R, .slice a1_w0 rz0_1.length c1_w0, .slice a2_w0 rz0_2.length c2_w0, .slice a3_w0 rz0_3.length c3_w0] 26)))
  have Bw0_2 := Lib.hid (Box.alloc u2 #[.int .i64 r0R, .slice a1_w0 rz0_1.length c1_w0, .slice a2_w0 rz0_2.length c2_w0, .slice a3_w0 rz0_3.length c3_w0] 26)
  go_wp2_with fail
  refine (c_toI _ _ _ zs1 _ G1.out (H1.out.on B2.out)).mono ?_; rintro e u3 ⟨a1_x1, c1_x1, rfl, o', x'⟩
  have B3 := Lib.hid (B2.out.trans x')
  have Bw0_3 := Lib.hid (Bw0_2.out.on x')
  have Os1_3 := Lib.hid (Os1_2.out.on x')
  have Ow0_3 := Lib.hid (Ow0_2.out.on x')
  have Ox1_3 := Lib.hid (o'.wide (lo' := u2.heap.size + 1) (hi' := u3.heap.size) (by first | omega | (simp; done) | (simp; omega)) (Nat.le_refl _)); clear o'
  have SZ3 := Lib.hid (show u2.heap.size + 1 ≤ u3.heap.size from Nat.le_trans (by first | omega | (simp; done) | (simp; omega)) x'.size); clear x'
  go_wp2_with fail
  refine (c_impl_TopsOf a0 _ _ _ zs1 _ HV.out G1.out Ox1_3.out.reads).mono ?_; rintro e u4 ⟨a1_g0, c1_g0, a2_g0, c2_g0, a3_g0, c3_g0, rfl, o0', x'⟩
  have B4 := Lib.hid (B3.out.trans x')
  have Bw0_4 := Lib.hid (Bw0_3.out.on x')
  have Os1_4 := Lib.hid (Os1_3.out.on x')
  have Ow0_4 := Lib.hid (Ow0_3.out.on x')
  have Ox1_4 := Lib.hid (Ox1_3.out.on x')
  have Og0_4 := Lib.hid (o0'.wide (lo' := u3.heap.size) (hi' := u4.heap.size) (by first | omega | (simp; done) | (simp; omega)) (Nat.le_refl _)); clear o0'
  have SZ4 := Lib.hid (show u3.heap.size ≤ u4.heap.size from Nat.le_trans (by first | omega | (simp; done) | (simp; omega)) x'.size); clear x'
  replace B4 := Lib.hid (B4.out.stepA (.cells #[.int .i64 r0R, .slice a1_g0 rz0_1.length c1_g0, .slice a2_g0 rz0_2.length c2_g0, .slice a3_g0 rz0_3.length c3_g0] 26))
  replace Bw0_4 := Lib.hid (Bw0_4.out.past (.cells #[.int .i64 r0R, .slice a1_g0 rz0_1.length c1_g0, .slice a2_g0 rz0_2.length c2_g0, .slice a3_g0 rz0_3.length c3_g0] 26))
  replace Os1_4 := Lib.hid (Os1_4.out.on (Ext.alloc u4 (.cells #[.int .i64 r0R, .slice a1_g0 rz0_1.length c1_g0, .slice a2_g0 rz0_2.length c2_g0, .slice a3_g0 rz0_3.length c3_g0] 26)))
  replace Ow0_4 := Lib.hid (Ow0_4.out.on (Ext.alloc u4 (.cells #[.int .i64 r0R, .slice a1_g0 rz0_1.length c1_g0, .slice a2_g0 rz0_2.length c2_g0, .slice a3_g0 rz0_3.length c3_g0] 26)))
  replace Ox1_4 := Lib.hid (Ox1_4.out.on (Ext.alloc u4 (.cells #[.int .i64 r0R, .slice a1_g0 rz0_1.length c1_g0, .slice a2_g0 rz0_2.length c2_g0, .slice a3_g0 rz0_3.length c3_g0] 26)))
  replace Og0_4 := Lib.hid (Og0_4.out.on (Ext.alloc u4 (.cells #[.int .i64 r0R, .slice a1_g0 rz0_1.length c1_g0, .slice a2_g0 rz0_2.length c2_g0, .slice a3_g0 rz0_3.length c3_g0] 26)))
  have Bg0_4 := Lib.hid (Box.alloc u4 #[.int .i64 r0R, .slice a1_g0 rz0_1.length c1_g0, .slice a2_g0 rz0_2.length c2_g0, .slice a3_g0 rz0_3.length c3_g0] 26)
  obtain ⟨fg00, fg01, fg02, fg03⟩ := Bg0_4.out.four
  obtain ⟨fw00, fw01, fw02, fw03⟩ := Bw0_4.out.four
  go_wp2_with fail
  clear fg00 fg01 fg02 fg03 fw00 fw01 fw02 fw03
  refine (c_eqP r0R _ _ _ _ rz0_1 _ _ _ _ rz0_2 _ _ _ _ rz0_3 _ RL0.out Og0_4.out.reads Ow0_4.out.reads).mono ?_; rintro e u5 ⟨rfl, x'⟩
  have B5 := Lib.hid (B4.out.trans x')
  have Bw0_5 := Lib.hid (Bw0_4.out.on x')
  have Bg0_5 := Lib.hid (Bg0_4.out.on x')
  have Os1_5 := Lib.hid (Os1_4.out.on x')
  have Ow0_5 := Lib.hid (Ow0_4.out.on x')
  have Ox1_5 := Lib.hid (Ox1_4.out.on x')
  have Og0_5 := Lib.hid (Og0_4.out.on x')
  have SZ5 := Lib.hid (show u4.heap.size + 1 ≤ u5.heap.size from Nat.le_trans (by first | omega | (simp; done) | (simp; omega)) x'.size); clear x'
  go_wp2_with fail
  refine (c_toI _ _ _ zs1 _ G1.out (H1.out.on B5.out)).mono ?_; rintro e u6 ⟨a1_t1, c1_t1, rfl, o', x'⟩
  have B6 := Lib.hid (B5.out.trans x')
  have Bw0_6 := Lib.hid (Bw0_5.out.on x')
  have Bg0_6 := Lib.hid (Bg0_5.out.on x')
  have Os1_6 := Lib.hid (Os1_5.out.on x')
  have Ow0_6 := Lib.hid (Ow0_5.out.on x')
  have Ox1_6 := Lib.hid (Ox1_5.out.on x')
  have Og0_6 := Lib.hid (Og0_5.out.on x')
  have Ot1_6 := Lib.hid (o'.wide (lo' := u5.heap.size) (hi' := u6.heap.size) (by first | omega | (simp; done) | (simp; omega)) (Nat.le_refl _)); clear o'
  have SZ6 := Lib.hid (show u5.heap.size ≤ u6.heap.size from Nat.le_trans (by first | omega | (simp; done) | (simp; omega)) x'.size); clear x'
  go_wp2_with fail
  refine (c_eqI_E _ _ _ _ _ zs1 _ G1.out Ox1_6.out.reads Ot1_6.out.reads).mono ?_; rintro e u7 ⟨rfl, x'⟩
  have B7 := Lib.hid (B6.out.trans x')
  have Bw0_7 := Lib.hid (Bw0_6.out.on x')
  have Bg0_7 := Lib.hid (Bg0_6.out.on x')
  have Os1_7 := Lib.hid (Os1_6.out.on x')
  have Ow0_7 := Lib.hid (Ow0_6.out.on x')
  have Ox1_7 := Lib.hid (Ox1_6.out.on x')
  have Og0_7 := Lib.hid (Og0_6.out.on x')
  have Ot1_7 := Lib.hid (Ot1_6.out.on x')
  have SZ7 := Lib.hid (show u6.heap.size ≤ u7.heap.size from Nat.le_trans (by first | omega | (simp; done) | (simp; omega)) x'.size); clear x'
  obtain ⟨kk1, hkk⟩ : ∃ k : Nat, 1 + zs1.length = k := ⟨_, rfl⟩; have HKK1 := Lib.hid hkk; have hpos1 : (0 : Int) ≤ (kk1 : Int) := by omega
  clear hkk
  go_wp2_with fail
  refine (c_markI (u2.heap.size + 1) (u3.heap.size) _ _ _ 1 _ _ G1.out (by decide) Ox1_7.out).mono ?_; rintro e u8 ⟨he, o', t'⟩; rw [HKK1.out] at he; subst he
  have B8 := Lib.hid (Touch.ext B7.out t' (by have := SZ1.out; have := SZ2.out; have := SZ3.out; have := SZ4.out; have := SZ5.out; have := SZ6.out; have := SZ7.out; omega))
  have Bw0_8 := Lib.hid (Bw0_7.out.beside t' (by have := SZ1.out; have := SZ2.out; have := SZ3.out; have := SZ4.out; have := SZ5.out; have := SZ6.out; have := SZ7.out; omega))
  have Bg0_8 := Lib.hid (Bg0_7.out.beside t' (by have := SZ1.out; have := SZ2.out; have := SZ3.out; have := SZ4.out; have := SZ5.out; have := SZ6.out; have := SZ7.out; omega))
  have Os1_8 := Lib.hid (Os1_7.out.beside t' (by have := SZ1.out; have := SZ2.out; have := SZ3.out; have := SZ4.out; have := SZ5.out; have := SZ6.out; have := SZ7.out; omega))
  have Ow0_8 := Lib.hid (Ow0_7.out.beside t' (by have := SZ1.out; have := SZ2.out; have := SZ3.out; have := SZ4.out; have := SZ5.out; have := SZ6.out; have := SZ7.out; omega))
  have Og0_8 := Lib.hid (Og0_7.out.beside t' (by have := SZ1.out; have := SZ2.out; have := SZ3.out; have := SZ4.out; have := SZ5.out; have := SZ6.out; have := SZ7.out; omega))
  have Ot1_8 := Lib.hid (Ot1_7.out.beside t' (by have := SZ1.out; have := SZ2.out; have := SZ3.out; have := SZ4.out; have := SZ5.out; have := SZ6.out; have := SZ7.out; omega))
  have Ox1_8 := Lib.hid o'
  have SZ8 := Lib.hid (show u7.heap.size ≤ u8.heap.size from Nat.le_trans (by first | omega | (simp; done) | (simp; omega)) t'.size); clear o' t'
  obtain ⟨fg00, fg01, fg02, fg03⟩ := Bg0_8.out.four
  obtain ⟨fw00, fw01, fw02, fw03⟩ := Bw0_8.out.four
  go_wp2_with fail
  clear fg00 fg01 fg02 fg03 fw00 fw01 fw02 fw03
  refine (c_eqP r0R _ _ _ _ rz0_1 _ _ _ _ rz0_2 _ _ _ _ rz0_3 _ RL0.out Og0_8.out.reads Ow0_8.out.reads).mono ?_; rintro e u9 ⟨rfl, x'⟩
  have B9 := Lib.hid (B8.out.trans x')
  have Bw0_9 := Lib.hid (Bw0_8.out.on x')
  have Bg0_9 := Lib.hid (Bg0_8.out.on x')
  have Os1_9 := Lib.hid (Os1_8.out.on x')
  have Ow0_9 := Lib.hid (Ow0_8.out.on x')
  have Ox1_9 := Lib.hid (Ox1_8.out.on x')
  have Og0_9 := Lib.hid (Og0_8.out.on x')
  have Ot1_9 := Lib.hid (Ot1_8.out.on x')
  have SZ9 := Lib.hid (show u8.heap.size ≤ u9.heap.size from Nat.le_trans (by first | omega | (simp; done) | (simp; omega)) x'.size); clear x'
  obtain ⟨kk2, hkk⟩ : ∃ k : Nat, 1 + rz0_1.length + rz0_2.length + rz0_3.length = k := ⟨_, rfl⟩; have HKK2 := Lib.hid hkk; have hpos2 : (0 : Int) ≤ (kk2 : Int) := by omega
  clear hkk
  obtain ⟨fg00, fg01, fg02, fg03⟩ := Bg0_9.out.four
  go_wp2_with fail
  clear fg00 fg01 fg02 fg03
  refine (c_markP r0R (u3.heap.size) (u4.heap.size) _ _ _ _ _ _ _ _ _ 1 _ _ _ _ RL0.out (by decide) Og0_9.out (by have := SZ1.out; have := SZ2.out; have := SZ3.out; have := SZ4.out; have := SZ5.out; have := SZ6.out; have := SZ7.out; have := SZ8.out; have := SZ9.out; omega)).mono ?_; rintro e u10 ⟨he, o', t'⟩; rw [HKK2.out] at he; subst he
  have B10 := Lib.hid (Touch.ext B9.out t' (by have := SZ1.out; have := SZ2.out; have := SZ3.out; have := SZ4.out; have := SZ5.out; have := SZ6.out; have := SZ7.out; have := SZ8.out; have := SZ9.out; omega))
  have Bw0_10 := Lib.hid (Bw0_9.out.beside t' (by have := SZ1.out; have := SZ2.out; have := SZ3.out; have := SZ4.out; have := SZ5.out; have := SZ6.out; have := SZ7.out; have := SZ8.out; have := SZ9.out; omega))
  have Bg0_10 := Lib.hid (Bg0_9.out.beside t' (by have := SZ1.out; have := SZ2.out; have := SZ3.out; have := SZ4.out; have := SZ5.out; have := SZ6.out; have := SZ7.out; have := SZ8.out; have := SZ9.out; omega))
  have Os1_10 := Lib.hid (Os1_9.out.beside t' (by have := SZ1.out; have := SZ2.out; have := SZ3.out; have := SZ4.out; have := SZ5.out; have := SZ6.out; have := SZ7.out; have := SZ8.out; have := SZ9.out; omega))
  have Ow0_10 := Lib.hid (Ow0_9.out.beside t' (by have := SZ1.out; have := SZ2.out; have := SZ3.out; have := SZ4.out; have := SZ5.out; have := SZ6.out; have := SZ7.out; have := SZ8.out; have := SZ9.out; omega))
  have Ox1_10 := Lib.hid (Ox1_9.out.beside t' (by have := SZ1.out; have := SZ2.out; have := SZ3.out; have := SZ4.out; have := SZ5.out; have := SZ6.out; have := SZ7.out; have := SZ8.out; have := SZ9.out; omega))
  have Ot1_10 := Lib.hid (Ot1_9.out.beside t' (by have := SZ1.out; have := SZ2.out; have := SZ3.out; have := SZ4.out; have := SZ5.out; have := SZ6.out; have := SZ7.out; have := SZ8.out; have := SZ9.out; omega))
  have Og0_10 := Lib.hid o'
  have SZ10 := Lib.hid (show u9.heap.size ≤ u10.heap.size from Nat.le_trans (by first | omega | (simp; done) | (simp; omega)) t'.size); clear o' t'
  obtain ⟨fg00, fg01, fg02, fg03⟩ := Bg0_10.out.four
  go_wp2_with fail
  clear fg00 fg01 fg02 fg03
  refine (c_heldP r0R _ _ _ _ _ _ _ _ _ 1 _ RL0.out (by decide) Og0_10.out.reads).mono ?_; rintro e u11 ⟨he, x'⟩; rw [HKK2.out] at he; subst he
  have B11 := Lib.hid (B10.out.trans x')
  have Bw0_11 := Lib.hid (Bw0_10.out.on x')
  have Bg0_11 := Lib.hid (Bg0_10.out.on x')
  have Os1_11 := Lib.hid (Os1_10.out.on x')
  have Ow0_11 := Lib.hid (Ow0_10.out.on x')
  have Ox1_11 := Lib.hid (Ox1_10.out.on x')
  have Og0_11 := Lib.hid (Og0_10.out.on x')
  have Ot1_11 := Lib.hid (Ot1_10.out.on x')
  have SZ11 := Lib.hid (show u10.heap.size ≤ u11.heap.size from Nat.le_trans (by first | omega | (simp; done) | (simp; omega)) x'.size); clear x'
  go_wp2_with fail
  refine (c_toI _ _ _ zs1 _ G1.out (H1.out.on B11.out)).mono ?_; rintro e u12 ⟨a1_y1, c1_y1, rfl, o', x'⟩
  have B12 := Lib.hid (B11.out.trans x')
  have Bw0_12 := Lib.hid (Bw0_11.out.on x')
  have Bg0_12 := Lib.hid (Bg0_11.out.on x')
  have Os1_12 := Lib.hid (Os1_11.out.on x')
  have Ow0_12 := Lib.hid (Ow0_11.out.on x')
  have Ox1_12 := Lib.hid (Ox1_11.out.on x')
  have Og0_12 := Lib.hid (Og0_11.out.on x')
  have Ot1_12 := Lib.hid (Ot1_11.out.on x')
  have Oy1_12 := Lib.hid (o'.wide (lo' := u11.heap.size) (hi' := u12.heap.size) (by first | omega | (simp; done) | (simp; omega)) (Nat.le_refl _)); clear o'
  have SZ12 := Lib.hid (show u11.heap.size ≤ u12.heap.size from Nat.le_trans (by first | omega | (simp; done) | (simp; omega)) x'.size); clear x'
  go_wp2_with fail
  refine (c_impl_TopsOf a0 _ _ _ zs1 _ HV.out G1.out Oy1_12.out.reads).mono ?_; rintro e u13 ⟨a1_h0, c1_h0, a2_h0, c2_h0, a3_h0, c3_h0, rfl, o0', x'⟩
  have B13 := Lib.hid (B12.out.trans x')
  have Bw0_13 := Lib.hid (Bw0_12.out.on x')
  have Bg0_13 := Lib.hid (Bg0_12.out.on x')
  have Os1_13 := Lib.hid (Os1_12.out.on x')
  have Ow0_13 := Lib.hid (Ow0_12.out.on x')
  have Ox1_13 := Lib.hid (Ox1_12.out.on x')
  have Og0_13 := Lib.hid (Og0_12.out.on x')
  have Ot1_13 := Lib.hid (Ot1_12.out.on x')
  have Oy1_13 := Lib.hid (Oy1_12.out.on x')
  have Oh0_13 := Lib.hid (o0'.wide (lo' := u12.heap.size) (hi' := u13.heap.size) (by first | omega | (simp; done) | (simp; omega)) (Nat.le_refl _)); clear o0'
  have SZ13 := Lib.hid (show u12.heap.size ≤ u13.heap.size from Nat.le_trans (by first | omega | (simp; done) | (simp; omega)) x'.size); clear x'
  replace B13 := Lib.hid (B13.out.stepA (.cells #[.int .i64 r0R, .slice a1_h0 rz0_1.length c1_h0, .slice a2_h0 rz0_2.length c2_h0, .slice a3_h0 rz0_3.length c3_h0] 26))
  replace Bw0_13 := Lib.hid (Bw0_13.out.past (.cells #[.int .i64 r0R, .slice a1_h0 rz0_1.length c1_h0, .slice a2_h0 rz0_2.length c2_h0, .slice a3_h0 rz0_3.length c3_h0] 26))
  replace Bg0_13 := Lib.hid (Bg0_13.out.past (.cells #[.int .i64 r0R, .slice a1_h0 rz0_1.length c1_h0, .slice a2_h0 rz0_2.length c2_h0, .slice a3_h0 rz0_3.length c3_h0] 26))
  replace Os1_13 := Lib.hid (Os1_13.out.on (Ext.alloc u13 (.cells #[.int .i64 r0R, .slice a1_h0 rz0_1.length c1_h0, .slice a2_h0 rz0_2.length c2_h0, .slice a3_h0 rz0_3.length c3_h0] 26)))
  replace Ow0_13 := Lib.hid (Ow0_13.out.on (Ext.alloc u13 (.cells #[.int .i64 r0R, .slice a1_h0 rz0_1.length c1_h0, .slice a2_h0 rz0_2.length c2_h0, .slice a3_h0 rz0_3.length c3_h0] 26)))
  replace Ox1_13 := Lib.hid (Ox1_13.out.on (Ext.alloc u13 (.cells #[.int .i64 r0R, .slice a1_h0 rz0_1.length c1_h0, .slice a2_h0 rz0_2.length c2_h0, .slice a3_h0 rz0_3.length c3_h0] 26)))
  replace Og0_13 := Lib.hid (Og0_13.out.on (Ext.alloc u13 (.cells #[.int .i64 r0R, .slice a1_h0 rz0_1.length c1_h0, .slice a2_h0 rz0_2.length c2_h0, .slice a3_h0 rz0_3.length c3_h0] 26)))
  replace Ot1_13 := Lib.hid (Ot1_13.out.on (Ext.alloc u13 (.cells #[.int .i64 r0R, .slice a1_h0 rz0_1.length c1_h0, .slice a2_h0 rz0_2.length c2_h0, .slice a3_h0 rz0_3.length c3_h0] 26)))
  replace Oy1_13 := Lib.hid (Oy1_13.out.on (Ext.alloc u13 (.cells #[.int .i64 r0R, .slice a1_h0 rz0_1.length c1_h0, .slice a2_h0 rz0_2.length c2_h0, .slice a3_h0 rz0_3.length c3_h0] 26)))
  replace Oh0_13 := Lib.hid (Oh0_13.out.on (Ext.alloc u13 (.cells #[.int .i64 r0R, .slice a1_h0 rz0_1.length c1_h0, .slice a2_h0 rz0_2.length c2_h0, .slice a3_h0 rz0_3.length c3_h0] 26)))
  have Bh0_13 := Lib.hid (Box.alloc u13 #[.int .i64 r0R, .slice a1_h0 rz0_1.length c1_h0, .slice a2_h0 rz0_2.length c2_h0, .slice a3_h0 rz0_3.length c3_h0] 26)
  obtain ⟨fh00, fh01, fh02, fh03⟩ := Bh0_13.out.four
  obtain ⟨fw00, fw01, fw02, fw03⟩ := Bw0_13.out.four
  go_wp2_with fail
  clear fh00 fh01 fh02 fh03 fw00 fw01 fw02 fw03
  refine (c_eqP r0R _ _ _ _ rz0_1 _ _ _ _ rz0_2 _ _ _ _ rz0_3 _ RL0.out Oh0_13.out.reads Ow0_13.out.reads).mono ?_; rintro e u14 ⟨rfl, x'⟩
  have B14 := Lib.hid (B13.out.trans x')
  have Bw0_14 := Lib.hid (Bw0_13.out.on x')
  have Bg0_14 := Lib.hid (Bg0_13.out.on x')
  have Bh0_14 := Lib.hid (Bh0_13.out.on x')
  have Os1_14 := Lib.hid (Os1_13.out.on x')
  have Ow0_14 := Lib.hid (Ow0_13.out.on x')
  have Ox1_14 := Lib.hid (Ox1_13.out.on x')
  have Og0_14 := Lib.hid (Og0_13.out.on x')
  have Ot1_14 := Lib.hid (Ot1_13.out.on x')
  have Oy1_14 := Lib.hid (Oy1_13.out.on x')
  have Oh0_14 := Lib.hid (Oh0_13.out.on x')
  have SZ14 := Lib.hid (show u13.heap.size + 1 ≤ u14.heap.size from Nat.le_trans (by first | omega | (simp; done) | (simp; omega)) x'.size); clear x'
  obtain ⟨fg00, fg01, fg02, fg03⟩ := Bg0_14.out.four
  go_wp2_with fail
  clear fg00 fg01 fg02 fg03
  refine (c_heldP r0R _ _ _ _ _ _ _ _ _ 1 _ RL0.out (by decide) Og0_14.out.reads).mono ?_; rintro e u15 ⟨he, x'⟩; rw [HKK2.out] at he; subst he
  have B15 := Lib.hid (B14.out.trans x')
  have Bw0_15 := Lib.hid (Bw0_14.out.on x')
  have Bg0_15 := Lib.hid (Bg0_14.out.on x')
  have Bh0_15 := Lib.hid (Bh0_14.out.on x')
  have Os1_15 := Lib.hid (Os1_14.out.on x')
  have Ow0_15 := Lib.hid (Ow0_14.out.on x')
  have Ox1_15 := Lib.hid (Ox1_14.out.on x')
  have Og0_15 := Lib.hid (Og0_14.out.on x')
  have Ot1_15 := Lib.hid (Ot1_14.out.on x')
  have Oy1_15 := Lib.hid (Oy1_14.out.on x')
  have Oh0_15 := Lib.hid (Oh0_14.out.on x')
  have SZ15 := Lib.hid (show u14.heap.size ≤ u15.heap.size from Nat.le_trans (by first | omega | (simp; done) | (simp; omega)) x'.size); clear x'
  go_wp2
  go_ret
  exact ⟨rfl, B15.out⟩
end Go.Proofs.Ytfmjohpmfcmpoab
