/- The walk of the law FnExactHashRows. -/
import Derived.Test.YtiimadklflmpcaaHrs
import Derived.Deep.RegionHeld3
import Derived.Deep.DeepCutAuto
import Derived.Deep.LoopGhost
import Derived.WalkLawsBesides
namespace Go.Proofs.Ytiimadklflmpcaa
open Go.ChangeShapes Go.WideShapes Go.ChangeAt Go.RowKit
set_option linter.unusedVariables false
set_option maxHeartbeats 8000000 in
theorem walk_FnExactHashRows (p0 : Option Addr) (len0 cap0 : Nat) (z0 : List Int) (p1 : Option Addr) (len1 cap1 : Nat) (z1 : List Int) (w : World) (w0 : IsRow .i64 w p0 len0 cap0 z0) (w1 : IsRow .i64 w p1 len1 cap1 z1) :
    Calls Try.prog 3 #[.slice p0 len0 cap0, .slice p1 len1 cap1] w fun e w' => e = .returned (.bool true) ∧ Below w.heap.size w w' := by
  obtain ⟨h0, m0⟩ := w0.rd
  obtain ⟨zs0, hz0⟩ : ∃ zs, z0.take len0 = zs := ⟨_, rfl⟩
  rw [hz0] at h0
  have hl0 := h0.int.1
  subst hl0
  have H0 := Lib.hid h0; have M0 := Lib.hid m0
  clear hz0 h0 m0 w0
  obtain ⟨h1, m1⟩ := w1.rd
  obtain ⟨zs1, hz1⟩ : ∃ zs, z1.take len1 = zs := ⟨_, rfl⟩
  rw [hz1] at h1
  have hl1 := h1.int.1
  subst hl1
  have H1 := Lib.hid h1; have M1 := Lib.hid m1
  clear hz1 h1 m1 w1
  have B0 := Lib.hid (show Ext w w from Ext.refl w)
  by_cases g0 : 1048576 < zs0.length
  · go_enter Try.func3, Try.ntmps3
    have m' := M0.out
    unfold maxLen at m'
    go_wp2
    go_ret
    exact ⟨rfl, Below.refl _ _⟩
  have G0 := Lib.hid (show zs0.length ≤ 1048576 by omega)
  have gi0 : (zs0.length : Int) ≤ 1048576 := by omega
  by_cases g1 : 1048576 < zs1.length
  · go_enter Try.func3, Try.ntmps3
    have m' := M1.out
    unfold maxLen at m'
    go_wp2
    go_ret
    exact ⟨rfl, Below.refl _ _⟩
  have G1 := Lib.hid (show zs1.length ≤ 1048576 by omega)
  have gi1 : (zs1.length : Int) ≤ 1048576 := by omega
  obtain ⟨rz0, rb1, hR⟩ : ∃ rz0 rb1, hrR zs0 zs1 = ((rz0 : List (List Int)), (rb1 : Bool)) := ⟨_, _, rfl⟩
  have RL0 := Lib.hid (show rz0.length + totS rz0 rz0.length ≤ 1048576 from hrR_le hR)
  have HV := Lib.hid hR
  clear hR
  go_enter Try.func3, Try.ntmps3
  go_wp2_with fail
  refine (c_toI _ _ _ zs0 _ G0.out (H0.out.on B0.out)).mono ?_; rintro e u1 ⟨a1_s0, c1_s0, rfl, o', x'⟩
  have B1 := Lib.hid (B0.out.trans x')
  have Os0_1 := Lib.hid (o'.wide (lo' := w.heap.size) (hi' := u1.heap.size) (by first | omega | (simp; done) | (simp; omega)) (Nat.le_refl _)); clear o'
  have SZ1 := Lib.hid (show w.heap.size ≤ u1.heap.size from Nat.le_trans (by first | omega | (simp; done) | (simp; omega)) x'.size); clear x'
  go_wp2_with fail
  refine (c_toI _ _ _ zs1 _ G1.out (H1.out.on B1.out)).mono ?_; rintro e u2 ⟨a1_s1, c1_s1, rfl, o', x'⟩
  have B2 := Lib.hid (B1.out.trans x')
  have Os0_2 := Lib.hid (Os0_1.out.on x')
  have Os1_2 := Lib.hid (o'.wide (lo' := u1.heap.size) (hi' := u2.heap.size) (by first | omega | (simp; done) | (simp; omega)) (Nat.le_refl _)); clear o'
  have SZ2 := Lib.hid (show u1.heap.size ≤ u2.heap.size from Nat.le_trans (by first | omega | (simp; done) | (simp; omega)) x'.size); clear x'
  go_wp2_with fail
  refine (c_spec_HashRows _ _ _ zs0 _ _ _ zs1 _ HV.out G0.out Os0_2.out.reads G1.out Os1_2.out.reads).mono ?_; rintro e u3 ⟨a1_w0, c1_w0, k1_w0, rfl, o0', x'⟩
  have B3 := Lib.hid (B2.out.trans x')
  have Os0_3 := Lib.hid (Os0_2.out.on x')
  have Os1_3 := Lib.hid (Os1_2.out.on x')
  have Ow0_3 := Lib.hid (o0'.wide (lo' := u2.heap.size) (hi' := u3.heap.size) (by first | omega | (simp; done) | (simp; omega)) (Nat.le_refl _)); clear o0'
  have SZ3 := Lib.hid (show u2.heap.size ≤ u3.heap.size from Nat.le_trans (by first | omega | (simp; done) | (simp; omega)) x'.size); clear x'
  go_wp2_with fail
  refine (c_toI _ _ _ zs0 _ G0.out (H0.out.on B3.out)).mono ?_; rintro e u4 ⟨a1_x0, c1_x0, rfl, o', x'⟩
  have B4 := Lib.hid (B3.out.trans x')
  have Os0_4 := Lib.hid (Os0_3.out.on x')
  have Os1_4 := Lib.hid (Os1_3.out.on x')
  have Ow0_4 := Lib.hid (Ow0_3.out.on x')
  have Ox0_4 := Lib.hid (o'.wide (lo' := u3.heap.size) (hi' := u4.heap.size) (by first | omega | (simp; done) | (simp; omega)) (Nat.le_refl _)); clear o'
  have SZ4 := Lib.hid (show u3.heap.size ≤ u4.heap.size from Nat.le_trans (by first | omega | (simp; done) | (simp; omega)) x'.size); clear x'
  go_wp2_with fail
  refine (c_toI _ _ _ zs1 _ G1.out (H1.out.on B4.out)).mono ?_; rintro e u5 ⟨a1_x1, c1_x1, rfl, o', x'⟩
  have B5 := Lib.hid (B4.out.trans x')
  have Os0_5 := Lib.hid (Os0_4.out.on x')
  have Os1_5 := Lib.hid (Os1_4.out.on x')
  have Ow0_5 := Lib.hid (Ow0_4.out.on x')
  have Ox0_5 := Lib.hid (Ox0_4.out.on x')
  have Ox1_5 := Lib.hid (o'.wide (lo' := u4.heap.size) (hi' := u5.heap.size) (by first | omega | (simp; done) | (simp; omega)) (Nat.le_refl _)); clear o'
  have SZ5 := Lib.hid (show u4.heap.size ≤ u5.heap.size from Nat.le_trans (by first | omega | (simp; done) | (simp; omega)) x'.size); clear x'
  go_wp2_with fail
  refine (c_impl_HashRows _ _ _ zs0 _ _ _ zs1 _ HV.out G0.out Ox0_5.out.reads G1.out Ox1_5.out.reads).mono ?_; rintro e u6 ⟨a1_g0, c1_g0, k1_g0, rfl, o0', x'⟩
  have B6 := Lib.hid (B5.out.trans x')
  have Os0_6 := Lib.hid (Os0_5.out.on x')
  have Os1_6 := Lib.hid (Os1_5.out.on x')
  have Ow0_6 := Lib.hid (Ow0_5.out.on x')
  have Ox0_6 := Lib.hid (Ox0_5.out.on x')
  have Ox1_6 := Lib.hid (Ox1_5.out.on x')
  have Og0_6 := Lib.hid (o0'.wide (lo' := u5.heap.size) (hi' := u6.heap.size) (by first | omega | (simp; done) | (simp; omega)) (Nat.le_refl _)); clear o0'
  have SZ6 := Lib.hid (show u5.heap.size ≤ u6.heap.size from Nat.le_trans (by first | omega | (simp; done) | (simp; omega)) x'.size); clear x'
  go_wp2_with fail
  refine (c_eqSI_E _ _ _ _ _ _ _ rz0 _ RL0.out Og0_6.out.reads Ow0_6.out.reads).mono ?_; rintro e u7 ⟨rfl, x'⟩
  have B7 := Lib.hid (B6.out.trans x')
  have Os0_7 := Lib.hid (Os0_6.out.on x')
  have Os1_7 := Lib.hid (Os1_6.out.on x')
  have Ow0_7 := Lib.hid (Ow0_6.out.on x')
  have Ox0_7 := Lib.hid (Ox0_6.out.on x')
  have Ox1_7 := Lib.hid (Ox1_6.out.on x')
  have Og0_7 := Lib.hid (Og0_6.out.on x')
  have SZ7 := Lib.hid (show u6.heap.size ≤ u7.heap.size from Nat.le_trans (by first | omega | (simp; done) | (simp; omega)) x'.size); clear x'
  go_wp2_with fail
  refine (c_toI _ _ _ zs0 _ G0.out (H0.out.on B7.out)).mono ?_; rintro e u8 ⟨a1_t0, c1_t0, rfl, o', x'⟩
  have B8 := Lib.hid (B7.out.trans x')
  have Os0_8 := Lib.hid (Os0_7.out.on x')
  have Os1_8 := Lib.hid (Os1_7.out.on x')
  have Ow0_8 := Lib.hid (Ow0_7.out.on x')
  have Ox0_8 := Lib.hid (Ox0_7.out.on x')
  have Ox1_8 := Lib.hid (Ox1_7.out.on x')
  have Og0_8 := Lib.hid (Og0_7.out.on x')
  have Ot0_8 := Lib.hid (o'.wide (lo' := u7.heap.size) (hi' := u8.heap.size) (by first | omega | (simp; done) | (simp; omega)) (Nat.le_refl _)); clear o'
  have SZ8 := Lib.hid (show u7.heap.size ≤ u8.heap.size from Nat.le_trans (by first | omega | (simp; done) | (simp; omega)) x'.size); clear x'
  go_wp2_with fail
  refine (c_eqI_E _ _ _ _ _ zs0 _ G0.out Ox0_8.out.reads Ot0_8.out.reads).mono ?_; rintro e u9 ⟨rfl, x'⟩
  have B9 := Lib.hid (B8.out.trans x')
  have Os0_9 := Lib.hid (Os0_8.out.on x')
  have Os1_9 := Lib.hid (Os1_8.out.on x')
  have Ow0_9 := Lib.hid (Ow0_8.out.on x')
  have Ox0_9 := Lib.hid (Ox0_8.out.on x')
  have Ox1_9 := Lib.hid (Ox1_8.out.on x')
  have Og0_9 := Lib.hid (Og0_8.out.on x')
  have Ot0_9 := Lib.hid (Ot0_8.out.on x')
  have SZ9 := Lib.hid (show u8.heap.size ≤ u9.heap.size from Nat.le_trans (by first | omega | (simp; done) | (simp; omega)) x'.size); clear x'
  go_wp2_with fail
  refine (c_toI _ _ _ zs1 _ G1.out (H1.out.on B9.out)).mono ?_; rintro e u10 ⟨a1_t1, c1_t1, rfl, o', x'⟩
  have B10 := Lib.hid (B9.out.trans x')
  have Os0_10 := Lib.hid (Os0_9.out.on x')
  have Os1_10 := Lib.hid (Os1_9.out.on x')
  have Ow0_10 := Lib.hid (Ow0_9.out.on x')
  have Ox0_10 := Lib.hid (Ox0_9.out.on x')
  have Ox1_10 := Lib.hid (Ox1_9.out.on x')
  have Og0_10 := Lib.hid (Og0_9.out.on x')
  have Ot0_10 := Lib.hid (Ot0_9.out.on x')
  have Ot1_10 := Lib.hid (o'.wide (lo' := u9.heap.size) (hi' := u10.heap.size) (by first | omega | (simp; done) | (simp; omega)) (Nat.le_refl _)); clear o'
  have SZ10 := Lib.hid (show u9.heap.size ≤ u10.heap.size from Nat.le_trans (by first | omega | (simp; done) | (simp; omega)) x'.size); clear x'
  go_wp2_with fail
  refine (c_eqI_E _ _ _ _ _ zs1 _ G1.out Ox1_10.out.reads Ot1_10.out.reads).mono ?_; rintro e u11 ⟨rfl, x'⟩
  have B11 := Lib.hid (B10.out.trans x')
  have Os0_11 := Lib.hid (Os0_10.out.on x')
  have Os1_11 := Lib.hid (Os1_10.out.on x')
  have Ow0_11 := Lib.hid (Ow0_10.out.on x')
  have Ox0_11 := Lib.hid (Ox0_10.out.on x')
  have Ox1_11 := Lib.hid (Ox1_10.out.on x')
  have Og0_11 := Lib.hid (Og0_10.out.on x')
  have Ot0_11 := Lib.hid (Ot0_10.out.on x')
  have Ot1_11 := Lib.hid (Ot1_10.out.on x')
  have SZ11 := Lib.hid (show u10.heap.size ≤ u11.heap.size from Nat.le_trans (by first | omega | (simp; done) | (simp; omega)) x'.size); clear x'
  obtain ⟨kk1, hkk⟩ : ∃ k : Nat, 1 + zs0.length = k := ⟨_, rfl⟩; have HKK1 := Lib.hid hkk; have hpos1 : (0 : Int) ≤ (kk1 : Int) := by omega
  clear hkk
  go_wp2_with fail
  refine (c_markI (u3.heap.size) (u4.heap.size) _ _ _ 1 _ _ G0.out (by decide) Ox0_11.out).mono ?_; rintro e u12 ⟨he, o', t'⟩; rw [HKK1.out] at he; subst he
  have B12 := Lib.hid (Touch.ext B11.out t' (by have := SZ1.out; have := SZ2.out; have := SZ3.out; have := SZ4.out; have := SZ5.out; have := SZ6.out; have := SZ7.out; have := SZ8.out; have := SZ9.out; have := SZ10.out; have := SZ11.out; omega))
  have Os0_12 := Lib.hid (Os0_11.out.beside t' (by have := SZ1.out; have := SZ2.out; have := SZ3.out; have := SZ4.out; have := SZ5.out; have := SZ6.out; have := SZ7.out; have := SZ8.out; have := SZ9.out; have := SZ10.out; have := SZ11.out; omega))
  have Os1_12 := Lib.hid (Os1_11.out.beside t' (by have := SZ1.out; have := SZ2.out; have := SZ3.out; have := SZ4.out; have := SZ5.out; have := SZ6.out; have := SZ7.out; have := SZ8.out; have := SZ9.out; have := SZ10.out; have := SZ11.out; omega))
  have Ow0_12 := Lib.hid (Ow0_11.out.beside t' (by have := SZ1.out; have := SZ2.out; have := SZ3.out; have := SZ4.out; have := SZ5.out; have := SZ6.out; have := SZ7.out; have := SZ8.out; have := SZ9.out; have := SZ10.out; have := SZ11.out; omega))
  have Ox1_12 := Lib.hid (Ox1_11.out.beside t' (by have := SZ1.out; have := SZ2.out; have := SZ3.out; have := SZ4.out; have := SZ5.out; have := SZ6.out; have := SZ7.out; have := SZ8.out; have := SZ9.out; have := SZ10.out; have := SZ11.out; omega))
  have Og0_12 := Lib.hid (Og0_11.out.beside t' (by have := SZ1.out; have := SZ2.out; have := SZ3.out; have := SZ4.out; have := SZ5.out; have := SZ6.out; have := SZ7.out; have := SZ8.out; have := SZ9.out; have := SZ10.out; have := SZ11.out; omega))
  have Ot0_12 := Lib.hid (Ot0_11.out.beside t' (by have := SZ1.out; have := SZ2.out; have := SZ3.out; have := SZ4.out; have := SZ5.out; have := SZ6.out; have := SZ7.out; have := SZ8.out; have := SZ9.out; have := SZ10.out; have := SZ11.out; omega))
  have Ot1_12 := Lib.hid (Ot1_11.out.beside t' (by have := SZ1.out; have := SZ2.out; have := SZ3.out; have := SZ4.out; have := SZ5.out; have := SZ6.out; have := SZ7.out; have := SZ8.out; have := SZ9.out; have := SZ10.out; have := SZ11.out; omega))
  have Ox0_12 := Lib.hid o'
  have SZ12 := Lib.hid (show u11.heap.size ≤ u12.heap.size from Nat.le_trans (by first | omega | (simp; done) | (simp; omega)) t'.size); clear o' t'
  obtain ⟨kk2, hkk⟩ : ∃ k : Nat, kk1 + zs1.length = k := ⟨_, rfl⟩; have HKK2 := Lib.hid hkk; have hpos2 : (0 : Int) ≤ (kk2 : Int) := by omega
  clear hkk
  go_wp2_with fail
  refine (c_markI (u4.heap.size) (u5.heap.size) _ _ _ kk1 _ _ G1.out (by have := HKK1.out; have := G0.out; omega) Ox1_12.out).mono ?_; rintro e u13 ⟨he, o', t'⟩; rw [HKK2.out] at he; subst he
  have B13 := Lib.hid (Touch.ext B12.out t' (by have := SZ1.out; have := SZ2.out; have := SZ3.out; have := SZ4.out; have := SZ5.out; have := SZ6.out; have := SZ7.out; have := SZ8.out; have := SZ9.out; have := SZ10.out; have := SZ11.out; have := SZ12.out; omega))
  have Os0_13 := Lib.hid (Os0_12.out.beside t' (by have := SZ1.out; have := SZ2.out; have := SZ3.out; have := SZ4.out; have := SZ5.out; have := SZ6.out; have := SZ7.out; have := SZ8.out; have := SZ9.out; have := SZ10.out; have := SZ11.out; have := SZ12.out; omega))
  have Os1_13 := Lib.hid (Os1_12.out.beside t' (by have := SZ1.out; have := SZ2.out; have := SZ3.out; have := SZ4.out; have := SZ5.out; have := SZ6.out; have := SZ7.out; have := SZ8.out; have := SZ9.out; have := SZ10.out; have := SZ11.out; have := SZ12.out; omega))
  have Ow0_13 := Lib.hid (Ow0_12.out.beside t' (by have := SZ1.out; have := SZ2.out; have := SZ3.out; have := SZ4.out; have := SZ5.out; have := SZ6.out; have := SZ7.out; have := SZ8.out; have := SZ9.out; have := SZ10.out; have := SZ11.out; have := SZ12.out; omega))
  have Ox0_13 := Lib.hid (Ox0_12.out.beside t' (by have := SZ1.out; have := SZ2.out; have := SZ3.out; have := SZ4.out; have := SZ5.out; have := SZ6.out; have := SZ7.out; have := SZ8.out; have := SZ9.out; have := SZ10.out; have := SZ11.out; have := SZ12.out; omega))
  have Og0_13 := Lib.hid (Og0_12.out.beside t' (by have := SZ1.out; have := SZ2.out; have := SZ3.out; have := SZ4.out; have := SZ5.out; have := SZ6.out; have := SZ7.out; have := SZ8.out; have := SZ9.out; have := SZ10.out; have := SZ11.out; have := SZ12.out; omega))
  have Ot0_13 := Lib.hid (Ot0_12.out.beside t' (by have := SZ1.out; have := SZ2.out; have := SZ3.out; have := SZ4.out; have := SZ5.out; have := SZ6.out; have := SZ7.out; have := SZ8.out; have := SZ9.out; have := SZ10.out; have := SZ11.out; have := SZ12.out; omega))
  have Ot1_13 := Lib.hid (Ot1_12.out.beside t' (by have := SZ1.out; have := SZ2.out; have := SZ3.out; have := SZ4.out; have := SZ5.out; have := SZ6.out; have := SZ7.out; have := SZ8.out; have := SZ9.out; have := SZ10.out; have := SZ11.out; have := SZ12.out; omega))
  have Ox1_13 := Lib.hid o'
  have SZ13 := Lib.hid (show u12.heap.size ≤ u13.heap.size from Nat.le_trans (by first | omega | (simp; done) | (simp; omega)) t'.size); clear o' t'
  go_wp2_with fail
  refine (c_eqSI_E _ _ _ _ _ _ _ rz0 _ RL0.out Og0_13.out.reads Ow0_13.out.reads).mono ?_; rintro e u14 ⟨rfl, x'⟩
  have B14 := Lib.hid (B13.out.trans x')
  have Os0_14 := Lib.hid (Os0_13.out.on x')
  have Os1_14 := Lib.hid (Os1_13.out.on x')
  have Ow0_14 := Lib.hid (Ow0_13.out.on x')
  have Ox0_14 := Lib.hid (Ox0_13.out.on x')
  have Ox1_14 := Lib.hid (Ox1_13.out.on x')
  have Og0_14 := Lib.hid (Og0_13.out.on x')
  have Ot0_14 := Lib.hid (Ot0_13.out.on x')
  have Ot1_14 := Lib.hid (Ot1_13.out.on x')
  have SZ14 := Lib.hid (show u13.heap.size ≤ u14.heap.size from Nat.le_trans (by first | omega | (simp; done) | (simp; omega)) x'.size); clear x'
  obtain ⟨kk3, hkk⟩ : ∃ k : Nat, 1 + totS rz0 rz0.length = k := ⟨_, rfl⟩; have HKK3 := Lib.hid hkk; have hpos3 : (0 : Int) ≤ (kk3 : Int) := by omega
  clear hkk
  go_wp2_with fail
  refine (c_markSI (u5.heap.size) (u6.heap.size) _ _ _ 1 _ rz0 _ RL0.out (by decide) Og0_14.out (by have := SZ1.out; have := SZ2.out; have := SZ3.out; have := SZ4.out; have := SZ5.out; have := SZ6.out; have := SZ7.out; have := SZ8.out; have := SZ9.out; have := SZ10.out; have := SZ11.out; have := SZ12.out; have := SZ13.out; have := SZ14.out; omega)).mono ?_; rintro e u15 ⟨he, o', t'⟩; rw [HKK3.out] at he; subst he
  have B15 := Lib.hid (Touch.ext B14.out t' (by have := SZ1.out; have := SZ2.out; have := SZ3.out; have := SZ4.out; have := SZ5.out; have := SZ6.out; have := SZ7.out; have := SZ8.out; have := SZ9.out; have := SZ10.out; have := SZ11.out; have := SZ12.out; have := SZ13.out; have := SZ14.out; omega))
  have Os0_15 := Lib.hid (Os0_14.out.beside t' (by have := SZ1.out; have := SZ2.out; have := SZ3.out; have := SZ4.out; have := SZ5.out; have := SZ6.out; have := SZ7.out; have := SZ8.out; have := SZ9.out; have := SZ10.out; have := SZ11.out; have := SZ12.out; have := SZ13.out; have := SZ14.out; omega))
  have Os1_15 := Lib.hid (Os1_14.out.beside t' (by have := SZ1.out; have := SZ2.out; have := SZ3.out; have := SZ4.out; have := SZ5.out; have := SZ6.out; have := SZ7.out; have := SZ8.out; have := SZ9.out; have := SZ10.out; have := SZ11.out; have := SZ12.out; have := SZ13.out; have := SZ14.out; omega))
  have Ow0_15 := Lib.hid (Ow0_14.out.beside t' (by have := SZ1.out; have := SZ2.out; have := SZ3.out; have := SZ4.out; have := SZ5.out; have := SZ6.out; have := SZ7.out; have := SZ8.out; have := SZ9.out; have := SZ10.out; have := SZ11.out; have := SZ12.out; have := SZ13.out; have := SZ14.out; omega))
  have Ox0_15 := Lib.hid (Ox0_14.out.beside t' (by have := SZ1.out; have := SZ2.out; have := SZ3.out; have := SZ4.out; have := SZ5.out; have := SZ6.out; have := SZ7.out; have := SZ8.out; have := SZ9.out; have := SZ10.out; have := SZ11.out; have := SZ12.out; have := SZ13.out; have := SZ14.out; omega))
  have Ox1_15 := Lib.hid (Ox1_14.out.beside t' (by have := SZ1.out; have := SZ2.out; have := SZ3.out; have := SZ4.out; have := SZ5.out; have := SZ6.out; have := SZ7.out; have := SZ8.out; have := SZ9.out; have := SZ10.out; have := SZ11.out; have := SZ12.out; have := SZ13.out; have := SZ14.out; omega))
  have Ot0_15 := Lib.hid (Ot0_14.out.beside t' (by have := SZ1.out; have := SZ2.out; have := SZ3.out; have := SZ4.out; have := SZ5.out; have := SZ6.out; have := SZ7.out; have := SZ8.out; have := SZ9.out; have := SZ10.out; have := SZ11.out; have := SZ12.out; have := SZ13.out; have := SZ14.out; omega))
  have Ot1_15 := Lib.hid (Ot1_14.out.beside t' (by have := SZ1.out; have := SZ2.out; have := SZ3.out; have := SZ4.out; have := SZ5.out; have := SZ6.out; have := SZ7.out; have := SZ8.out; have := SZ9.out; have := SZ10.out; have := SZ11.out; have := SZ12.out; have := SZ13.out; have := SZ14.out; omega))
  have Og0_15 := Lib.hid o'
  have SZ15 := Lib.hid (show u14.heap.size ≤ u15.heap.size from Nat.le_trans (by first | omega | (simp; done) | (simp; omega)) t'.size); clear o' t'
  go_wp2_with fail
  refine (c_heldSI_E _ _ _ 1 _ rz0 _ RL0.out (by decide) Og0_15.out.reads).mono ?_; rintro e u16 ⟨he, x'⟩; rw [HKK3.out] at he; subst he
  have B16 := Lib.hid (B15.out.trans x')
  have Os0_16 := Lib.hid (Os0_15.out.on x')
  have Os1_16 := Lib.hid (Os1_15.out.on x')
  have Ow0_16 := Lib.hid (Ow0_15.out.on x')
  have Ox0_16 := Lib.hid (Ox0_15.out.on x')
  have Ox1_16 := Lib.hid (Ox1_15.out.on x')
  have Og0_16 := Lib.hid (Og0_15.out.on x')
  have Ot0_16 := Lib.hid (Ot0_15.out.on x')
  have Ot1_16 := Lib.hid (Ot1_15.out.on x')
  have SZ16 := Lib.hid (show u15.heap.size ≤ u16.heap.size from Nat.le_trans (by first | omega | (simp; done) | (simp; omega)) x'.size); clear x'
  go_wp2_with fail
  refine (c_toI _ _ _ zs0 _ G0.out (H0.out.on B16.out)).mono ?_; rintro e u17 ⟨a1_y0, c1_y0, rfl, o', x'⟩
  have B17 := Lib.hid (B16.out.trans x')
  have Os0_17 := Lib.hid (Os0_16.out.on x')
  have Os1_17 := Lib.hid (Os1_16.out.on x')
  have Ow0_17 := Lib.hid (Ow0_16.out.on x')
  have Ox0_17 := Lib.hid (Ox0_16.out.on x')
  have Ox1_17 := Lib.hid (Ox1_16.out.on x')
  have Og0_17 := Lib.hid (Og0_16.out.on x')
  have Ot0_17 := Lib.hid (Ot0_16.out.on x')
  have Ot1_17 := Lib.hid (Ot1_16.out.on x')
  have Oy0_17 := Lib.hid (o'.wide (lo' := u16.heap.size) (hi' := u17.heap.size) (by first | omega | (simp; done) | (simp; omega)) (Nat.le_refl _)); clear o'
  have SZ17 := Lib.hid (show u16.heap.size ≤ u17.heap.size from Nat.le_trans (by first | omega | (simp; done) | (simp; omega)) x'.size); clear x'
  go_wp2_with fail
  refine (c_toI _ _ _ zs1 _ G1.out (H1.out.on B17.out)).mono ?_; rintro e u18 ⟨a1_y1, c1_y1, rfl, o', x'⟩
  have B18 := Lib.hid (B17.out.trans x')
  have Os0_18 := Lib.hid (Os0_17.out.on x')
  have Os1_18 := Lib.hid (Os1_17.out.on x')
  have Ow0_18 := Lib.hid (Ow0_17.out.on x')
  have Ox0_18 := Lib.hid (Ox0_17.out.on x')
  have Ox1_18 := Lib.hid (Ox1_17.out.on x')
  have Og0_18 := Lib.hid (Og0_17.out.on x')
  have Ot0_18 := Lib.hid (Ot0_17.out.on x')
  have Ot1_18 := Lib.hid (Ot1_17.out.on x')
  have Oy0_18 := Lib.hid (Oy0_17.out.on x')
  have Oy1_18 := Lib.hid (o'.wide (lo' := u17.heap.size) (hi' := u18.heap.size) (by first | omega | (simp; done) | (simp; omega)) (Nat.le_refl _)); clear o'
  have SZ18 := Lib.hid (show u17.heap.size ≤ u18.heap.size from Nat.le_trans (by first | omega | (simp; done) | (simp; omega)) x'.size); clear x'
  go_wp2_with fail
  refine (c_impl_HashRows _ _ _ zs0 _ _ _ zs1 _ HV.out G0.out Oy0_18.out.reads G1.out Oy1_18.out.reads).mono ?_; rintro e u19 ⟨a1_h0, c1_h0, k1_h0, rfl, o0', x'⟩
  have B19 := Lib.hid (B18.out.trans x')
  have Os0_19 := Lib.hid (Os0_18.out.on x')
  have Os1_19 := Lib.hid (Os1_18.out.on x')
  have Ow0_19 := Lib.hid (Ow0_18.out.on x')
  have Ox0_19 := Lib.hid (Ox0_18.out.on x')
  have Ox1_19 := Lib.hid (Ox1_18.out.on x')
  have Og0_19 := Lib.hid (Og0_18.out.on x')
  have Ot0_19 := Lib.hid (Ot0_18.out.on x')
  have Ot1_19 := Lib.hid (Ot1_18.out.on x')
  have Oy0_19 := Lib.hid (Oy0_18.out.on x')
  have Oy1_19 := Lib.hid (Oy1_18.out.on x')
  have Oh0_19 := Lib.hid (o0'.wide (lo' := u18.heap.size) (hi' := u19.heap.size) (by first | omega | (simp; done) | (simp; omega)) (Nat.le_refl _)); clear o0'
  have SZ19 := Lib.hid (show u18.heap.size ≤ u19.heap.size from Nat.le_trans (by first | omega | (simp; done) | (simp; omega)) x'.size); clear x'
  go_wp2_with fail
  refine (c_eqSI_E _ _ _ _ _ _ _ rz0 _ RL0.out Oh0_19.out.reads Ow0_19.out.reads).mono ?_; rintro e u20 ⟨rfl, x'⟩
  have B20 := Lib.hid (B19.out.trans x')
  have Os0_20 := Lib.hid (Os0_19.out.on x')
  have Os1_20 := Lib.hid (Os1_19.out.on x')
  have Ow0_20 := Lib.hid (Ow0_19.out.on x')
  have Ox0_20 := Lib.hid (Ox0_19.out.on x')
  have Ox1_20 := Lib.hid (Ox1_19.out.on x')
  have Og0_20 := Lib.hid (Og0_19.out.on x')
  have Ot0_20 := Lib.hid (Ot0_19.out.on x')
  have Ot1_20 := Lib.hid (Ot1_19.out.on x')
  have Oy0_20 := Lib.hid (Oy0_19.out.on x')
  have Oy1_20 := Lib.hid (Oy1_19.out.on x')
  have Oh0_20 := Lib.hid (Oh0_19.out.on x')
  have SZ20 := Lib.hid (show u19.heap.size ≤ u20.heap.size from Nat.le_trans (by first | omega | (simp; done) | (simp; omega)) x'.size); clear x'
  go_wp2_with fail
  refine (c_heldSI_E _ _ _ 1 _ rz0 _ RL0.out (by decide) Og0_20.out.reads).mono ?_; rintro e u21 ⟨he, x'⟩; rw [HKK3.out] at he; subst he
  have B21 := Lib.hid (B20.out.trans x')
  have Os0_21 := Lib.hid (Os0_20.out.on x')
  have Os1_21 := Lib.hid (Os1_20.out.on x')
  have Ow0_21 := Lib.hid (Ow0_20.out.on x')
  have Ox0_21 := Lib.hid (Ox0_20.out.on x')
  have Ox1_21 := Lib.hid (Ox1_20.out.on x')
  have Og0_21 := Lib.hid (Og0_20.out.on x')
  have Ot0_21 := Lib.hid (Ot0_20.out.on x')
  have Ot1_21 := Lib.hid (Ot1_20.out.on x')
  have Oy0_21 := Lib.hid (Oy0_20.out.on x')
  have Oy1_21 := Lib.hid (Oy1_20.out.on x')
  have Oh0_21 := Lib.hid (Oh0_20.out.on x')
  have SZ21 := Lib.hid (show u20.heap.size ≤ u21.heap.size from Nat.le_trans (by first | omega | (simp; done) | (simp; omega)) x'.size); clear x'
  go_wp2
  go_ret
  exact ⟨rfl, B21.out⟩
end Go.Proofs.Ytiimadklflmpcaa
