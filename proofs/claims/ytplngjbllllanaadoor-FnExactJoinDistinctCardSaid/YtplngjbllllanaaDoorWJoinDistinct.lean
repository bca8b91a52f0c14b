/- The walk of the law FnExactJoinDistinct. -/
import Derived.Test.YtplngjbllllanaaDoorJdb
import Derived.Test.YtplngjbllllanaaDoorMul
import Derived.Deep.RegionHeld3
import Derived.Deep.DeepCutAuto
import Derived.Deep.LoopGhost
import Derived.WalkLawsBesides
namespace Go.Proofs.YtplngjbllllanaaDoor
open Go.ChangeShapes Go.WideShapes Go.ChangeAt Go.RowKit
set_option linter.unusedVariables false
set_option maxRecDepth 100000 in
set_option maxHeartbeats 8000000 in
theorem walk_FnExactJoinDistinct (a0 : Int) (p1 : Option Addr) (len1 cap1 : Nat) (z1 : List Int) (a2 : Int) (p3 : Option Addr) (len3 cap3 : Nat) (z3 : List Int) (a4 : Int) (a5 : Int) (w : World) (w0 : (Lit.int .i64 a0).wf = true) (w1 : IsRow .i64 w p1 len1 cap1 z1) (w2 : (Lit.int .i64 a2).wf = true) (w3 : IsRow .i64 w p3 len3 cap3 z3) (w4 : (Lit.int .i64 a4).wf = true) (w5 : (Lit.int .i64 a5).wf = true) (hT : TabW w) :
    Calls Tryd.prog 4 #[.int .i64 a0, .slice p1 len1 cap1, .int .i64 a2, .slice p3 len3 cap3, .int .i64 a4, .int .i64 a5] w fun e w' => e = .returned (.bool true) ∧ Below w.heap.size w w' := by
  have HT := Lib.hid hT
  clear hT
  clear w0
  obtain ⟨h1, m1⟩ := w1.rd
  obtain ⟨zs1, hz1⟩ : ∃ zs, z1.take len1 = zs := ⟨_, rfl⟩
  rw [hz1] at h1
  have hl1 := h1.int.1
  subst hl1
  have H1 := Lib.hid h1; have M1 := Lib.hid m1
  clear hz1 h1 m1 w1
  clear w2
  obtain ⟨h3, m3⟩ := w3.rd
  obtain ⟨zs3, hz3⟩ : ∃ zs, z3.take len3 = zs := ⟨_, rfl⟩
  rw [hz3] at h3
  have hl3 := h3.int.1
  subst hl3
  have H3 := Lib.hid h3; have M3 := Lib.hid m3
  clear hz3 h3 m3 w3
  clear w4
  clear w5
  have B0 := Lib.hid (show Ext w w from Ext.refl w)
  by_cases g1 : 1048576 < zs1.length
  · go_enter Tryd.func4, Tryd.ntmps4
    have m' := M1.out
    unfold maxLen at m'
    go_wp2
    go_ret
    exact ⟨rfl, Below.refl _ _⟩
  have G1 := Lib.hid (show zs1.length ≤ 1048576 by omega)
  have gi1 : (zs1.length : Int) ≤ 1048576 := by omega
  by_cases g3 : 1048576 < zs3.length
  · go_enter Tryd.func4, Tryd.ntmps4
    have m' := M3.out
    unfold maxLen at m'
    go_wp2
    go_ret
    exact ⟨rfl, Below.refl _ _⟩
  have G3 := Lib.hid (show zs3.length ≤ 1048576 by omega)
  have gi3 : (zs3.length : Int) ≤ 1048576 := by omega
  obtain ⟨rv0, rz1, rb2, hR⟩ : ∃ rv0 rz1 rb2, jdR a0 zs1 a2 zs3 a4 a5 = ((rv0 : Int), (rz1 : List Int), (rb2 : Bool)) := ⟨_, _, _, rfl⟩
  have RL1 := Lib.hid (show rz1.length ≤ 1048576 from jdR_le hR)
  have HV := Lib.hid hR
  clear hR
  go_enter Tryd.func4, Tryd.ntmps4
  go_wp2_with fail
  refine (c_toI _ _ _ zs1 _ G1.out (H1.out.on B0.out)).mono ?_; rintro e u1 ⟨a1_s1, c1_s1, rfl, o', x'⟩
  have B1 := Lib.hid (B0.out.trans x')
  have Os1_1 := Lib.hid (o'.wide (lo' := w.heap.size) (hi' := u1.heap.size) (by first | omega | (simp; done) | (simp; omega)) (Nat.le_refl _)); clear o'
  have SZ1 := Lib.hid (show w.heap.size ≤ u1.heap.size from Nat.le_trans (by first | omega | (simp; done) | (simp; omega)) x'.size); clear x'
  go_wp2_with fail
  refine (c_toI _ _ _ zs3 _ G3.out (H3.out.on B1.out)).mono ?_; rintro e u2 ⟨a1_s3, c1_s3, rfl, o', x'⟩
  have B2 := Lib.hid (B1.out.trans x')
  have Os1_2 := Lib.hid (Os1_1.out.on x')
  have Os3_2 := Lib.hid (o'.wide (lo' := u1.heap.size) (hi' := u2.heap.size) (by first | omega | (simp; done) | (simp; omega)) (Nat.le_refl _)); clear o'
  have SZ2 := Lib.hid (show u1.heap.size ≤ u2.heap.size from Nat.le_trans (by first | omega | (simp; done) | (simp; omega)) x'.size); clear x'
  go_wp2_with fail
  refine (c_spec_JoinDistinct a0 _ _ _ zs1 a2 _ _ _ zs3 a4 a5 _ HV.out G1.out Os1_2.out.reads G3.out Os3_2.out.reads Os1_2.out.sln Os3_2.out.sln (HT.out.on B2.out)).mono ?_; rintro e u3 ⟨a1_w1, c1_w1, rfl, o1', x'⟩
  have B3 := Lib.hid (B2.out.trans x')
  have Os1_3 := Lib.hid (Os1_2.out.on x')
  have Os3_3 := Lib.hid (Os3_2.out.on x')
  have Ow1_3 := Lib.hid (o1'.wide (lo' := u2.heap.size) (hi' := u3.heap.size) (by first | omega | (simp; done) | (simp; omega)) (Nat.le_refl _)); clear o1'
  have SZ3 := Lib.hid (show u2.heap.size ≤ u3.heap.size from Nat.le_trans (by first | omega | (simp; done) | (simp; omega)) x'.size); clear x'
  go_wp2_with fail
  refine (c_toI _ _ _ zs1 _ G1.out (H1.out.on B3.out)).mono ?_; rintro e u4 ⟨a1_x1, c1_x1, rfl, o', x'⟩
  have B4 := Lib.hid (B3.out.trans x')
  have Os1_4 := Lib.hid (Os1_3.out.on x')
  have Os3_4 := Lib.hid (Os3_3.out.on x')
  have Ow1_4 := Lib.hid (Ow1_3.out.on x')
  have Ox1_4 := Lib.hid (o'.wide (lo' := u3.heap.size) (hi' := u4.heap.size) (by first | omega | (simp; done) | (simp; omega)) (Nat.le_refl _)); clear o'
  have SZ4 := Lib.hid (show u3.heap.size ≤ u4.heap.size from Nat.le_trans (by first | omega | (simp; done) | (simp; omega)) x'.size); clear x'
  go_wp2_with fail
  refine (c_toI _ _ _ zs3 _ G3.out (H3.out.on B4.out)).mono ?_; rintro e u5 ⟨a1_x3, c1_x3, rfl, o', x'⟩
  have B5 := Lib.hid (B4.out.trans x')
  have Os1_5 := Lib.hid (Os1_4.out.on x')
  have Os3_5 := Lib.hid (Os3_4.out.on x')
  have Ow1_5 := Lib.hid (Ow1_4.out.on x')
  have Ox1_5 := Lib.hid (Ox1_4.out.on x')
  have Ox3_5 := Lib.hid (o'.wide (lo' := u4.heap.size) (hi' := u5.heap.size) (by first | omega | (simp; done) | (simp; omega)) (Nat.le_refl _)); clear o'
  have SZ5 := Lib.hid (show u4.heap.size ≤ u5.heap.size from Nat.le_trans (by first | omega | (simp; done) | (simp; omega)) x'.size); clear x'
  go_wp2_with fail
  refine (c_impl_JoinDistinct a0 _ _ _ zs1 a2 _ _ _ zs3 a4 a5 _ HV.out G1.out Ox1_5.out.reads G3.out Ox3_5.out.reads Ox1_5.out.sln Ox3_5.out.sln (HT.out.on B5.out)).mono ?_; rintro e u6 ⟨a1_g1, c1_g1, rfl, o1', x'⟩
  have B6 := Lib.hid (B5.out.trans x')
  have Os1_6 := Lib.hid (Os1_5.out.on x')
  have Os3_6 := Lib.hid (Os3_5.out.on x')
  have Ow1_6 := Lib.hid (Ow1_5.out.on x')
  have Ox1_6 := Lib.hid (Ox1_5.out.on x')
  have Ox3_6 := Lib.hid (Ox3_5.out.on x')
  have Og1_6 := Lib.hid (o1'.wide (lo' := u5.heap.size) (hi' := u6.heap.size) (by first | omega | (simp; done) | (simp; omega)) (Nat.le_refl _)); clear o1'
  have SZ6 := Lib.hid (show u5.heap.size ≤ u6.heap.size from Nat.le_trans (by first | omega | (simp; done) | (simp; omega)) x'.size); clear x'
  go_wp2_with fail
  refine (c_eqI_E _ _ _ _ _ rz1 _ RL1.out Og1_6.out.reads Ow1_6.out.reads).mono ?_; rintro e u7 ⟨rfl, x'⟩
  have B7 := Lib.hid (B6.out.trans x')
  have Os1_7 := Lib.hid (Os1_6.out.on x')
  have Os3_7 := Lib.hid (Os3_6.out.on x')
  have Ow1_7 := Lib.hid (Ow1_6.out.on x')
  have Ox1_7 := Lib.hid (Ox1_6.out.on x')
  have Ox3_7 := Lib.hid (Ox3_6.out.on x')
  have Og1_7 := Lib.hid (Og1_6.out.on x')
  have SZ7 := Lib.hid (show u6.heap.size ≤ u7.heap.size from Nat.le_trans (by first | omega | (simp; done) | (simp; omega)) x'.size); clear x'
  go_wp2_with fail
  refine (c_toI _ _ _ zs1 _ G1.out (H1.out.on B7.out)).mono ?_; rintro e u8 ⟨a1_t1, c1_t1, rfl, o', x'⟩
  have B8 := Lib.hid (B7.out.trans x')
  have Os1_8 := Lib.hid (Os1_7.out.on x')
  have Os3_8 := Lib.hid (Os3_7.out.on x')
  have Ow1_8 := Lib.hid (Ow1_7.out.on x')
  have Ox1_8 := Lib.hid (Ox1_7.out.on x')
  have Ox3_8 := Lib.hid (Ox3_7.out.on x')
  have Og1_8 := Lib.hid (Og1_7.out.on x')
  have Ot1_8 := Lib.hid (o'.wide (lo' := u7.heap.size) (hi' := u8.heap.size) (by first | omega | (simp; done) | (simp; omega)) (Nat.le_refl _)); clear o'
  have SZ8 := Lib.hid (show u7.heap.size ≤ u8.heap.size from Nat.le_trans (by first | omega | (simp; done) | (simp; omega)) x'.size); clear x'
  go_wp2_with fail
  refine (c_eqI_E _ _ _ _ _ zs1 _ G1.out Ox1_8.out.reads Ot1_8.out.reads).mono ?_; rintro e u9 ⟨rfl, x'⟩
  have B9 := Lib.hid (B8.out.trans x')
  have Os1_9 := Lib.hid (Os1_8.out.on x')
  have Os3_9 := Lib.hid (Os3_8.out.on x')
  have Ow1_9 := Lib.hid (Ow1_8.out.on x')
  have Ox1_9 := Lib.hid (Ox1_8.out.on x')
  have Ox3_9 := Lib.hid (Ox3_8.out.on x')
  have Og1_9 := Lib.hid (Og1_8.out.on x')
  have Ot1_9 := Lib.hid (Ot1_8.out.on x')
  have SZ9 := Lib.hid (show u8.heap.size ≤ u9.heap.size from Nat.le_trans (by first | omega | (simp; done) | (simp; omega)) x'.size); clear x'
  go_wp2_with fail
  refine (c_toI _ _ _ zs3 _ G3.out (H3.out.on B9.out)).mono ?_; rintro e u10 ⟨a1_t3, c1_t3, rfl, o', x'⟩
  have B10 := Lib.hid (B9.out.trans x')
  have Os1_10 := Lib.hid (Os1_9.out.on x')
  have Os3_10 := Lib.hid (Os3_9.out.on x')
  have Ow1_10 := Lib.hid (Ow1_9.out.on x')
  have Ox1_10 := Lib.hid (Ox1_9.out.on x')
  have Ox3_10 := Lib.hid (Ox3_9.out.on x')
  have Og1_10 := Lib.hid (Og1_9.out.on x')
  have Ot1_10 := Lib.hid (Ot1_9.out.on x')
  have Ot3_10 := Lib.hid (o'.wide (lo' := u9.heap.size) (hi' := u10.heap.size) (by first | omega | (simp; done) | (simp; omega)) (Nat.le_refl _)); clear o'
  have SZ10 := Lib.hid (show u9.heap.size ≤ u10.heap.size from Nat.le_trans (by first | omega | (simp; done) | (simp; omega)) x'.size); clear x'
  go_wp2_with fail
  refine (c_eqI_E _ _ _ _ _ zs3 _ G3.out Ox3_10.out.reads Ot3_10.out.reads).mono ?_; rintro e u11 ⟨rfl, x'⟩
  have B11 := Lib.hid (B10.out.trans x')
  have Os1_11 := Lib.hid (Os1_10.out.on x')
  have Os3_11 := Lib.hid (Os3_10.out.on x')
  have Ow1_11 := Lib.hid (Ow1_10.out.on x')
  have Ox1_11 := Lib.hid (Ox1_10.out.on x')
  have Ox3_11 := Lib.hid (Ox3_10.out.on x')
  have Og1_11 := Lib.hid (Og1_10.out.on x')
  have Ot1_11 := Lib.hid (Ot1_10.out.on x')
  have Ot3_11 := Lib.hid (Ot3_10.out.on x')
  have SZ11 := Lib.hid (show u10.heap.size ≤ u11.heap.size from Nat.le_trans (by first | omega | (simp; done) | (simp; omega)) x'.size); clear x'
  obtain ⟨kk1, hkk⟩ : ∃ k : Nat, 1 + zs1.length = k := ⟨_, rfl⟩; have HKK1 := Lib.hid hkk; have hpos1 : (0 : Int) ≤ (kk1 : Int) := by omega
  clear hkk
  go_wp2_with fail
  refine (c_markI (u3.heap.size) (u4.heap.size) _ _ _ 1 _ _ G1.out (by decide) Ox1_11.out).mono ?_; rintro e u12 ⟨he, o', t'⟩; rw [HKK1.out] at he; subst he
  have B12 := Lib.hid (Touch.ext B11.out t' (by have := SZ1.out; have := SZ2.out; have := SZ3.out; have := SZ4.out; have := SZ5.out; have := SZ6.out; have := SZ7.out; have := SZ8.out; have := SZ9.out; have := SZ10.out; have := SZ11.out; omega))
  have Os1_12 := Lib.hid (Os1_11.out.beside t' (by have := SZ1.out; have := SZ2.out; have := SZ3.out; have := SZ4.out; have := SZ5.out; have := SZ6.out; have := SZ7.out; have := SZ8.out; have := SZ9.out; have := SZ10.out; have := SZ11.out; omega))
  have Os3_12 := Lib.hid (Os3_11.out.beside t' (by have := SZ1.out; have := SZ2.out; have := SZ3.out; have := SZ4.out; have := SZ5.out; have := SZ6.out; have := SZ7.out; have := SZ8.out; have := SZ9.out; have := SZ10.out; have := SZ11.out; omega))
  have Ow1_12 := Lib.hid (Ow1_11.out.beside t' (by have := SZ1.out; have := SZ2.out; have := SZ3.out; have := SZ4.out; have := SZ5.out; have := SZ6.out; have := SZ7.out; have := SZ8.out; have := SZ9.out; have := SZ10.out; have := SZ11.out; omega))
  have Ox3_12 := Lib.hid (Ox3_11.out.beside t' (by have := SZ1.out; have := SZ2.out; have := SZ3.out; have := SZ4.out; have := SZ5.out; have := SZ6.out; have := SZ7.out; have := SZ8.out; have := SZ9.out; have := SZ10.out; have := SZ11.out; omega))
  have Og1_12 := Lib.hid (Og1_11.out.beside t' (by have := SZ1.out; have := SZ2.out; have := SZ3.out; have := SZ4.out; have := SZ5.out; have := SZ6.out; have := SZ7.out; have := SZ8.out; have := SZ9.out; have := SZ10.out; have := SZ11.out; omega))
  have Ot1_12 := Lib.hid (Ot1_11.out.beside t' (by have := SZ1.out; have := SZ2.out; have := SZ3.out; have := SZ4.out; have := SZ5.out; have := SZ6.out; have := SZ7.out; have := SZ8.out; have := SZ9.out; have := SZ10.out; have := SZ11.out; omega))
  have Ot3_12 := Lib.hid (Ot3_11.out.beside t' (by have := SZ1.out; have := SZ2.out; have := SZ3.out; have := SZ4.out; have := SZ5.out; have := SZ6.out; have := SZ7.out; have := SZ8.out; have := SZ9.out; have := SZ10.out; have := SZ11.out; omega))
  have Ox1_12 := Lib.hid o'
  have SZ12 := Lib.hid (show u11.heap.size ≤ u12.heap.size from Nat.le_trans (by first | omega | (simp; done) | (simp; omega)) t'.size); clear o' t'
  obtain ⟨kk2, hkk⟩ : ∃ k : Nat, kk1 + zs3.length = k := ⟨_, rfl⟩; have HKK2 := Lib.hid hkk; have hpos2 : (0 : Int) ≤ (kk2 : Int) := by omega
  clear hkk
  go_wp2_with fail
  refine (c_markI (u4.heap.size) (u5.heap.size) _ _ _ kk1 _ _ G3.out (by have := HKK1.out; have := G1.out; omega) Ox3_12.out).mono ?_; rintro e u13 ⟨he, o', t'⟩; rw [HKK2.out] at he; subst he
  have B13 := Lib.hid (Touch.ext B12.out t' (by have := SZ1.out; have := SZ2.out; have := SZ3.out; have := SZ4.out; have := SZ5.out; have := SZ6.out; have := SZ7.out; have := SZ8.out; have := SZ9.out; have := SZ10.out; have := SZ11.out; have := SZ12.out; omega))
  have Os1_13 := Lib.hid (Os1_12.out.beside t' (by have := SZ1.out; have := SZ2.out; have := SZ3.out; have := SZ4.out; have := SZ5.out; have := SZ6.out; have := SZ7.out; have := SZ8.out; have := SZ9.out; have := SZ10.out; have := SZ11.out; have := SZ12.out; omega))
  have Os3_13 := Lib.hid (Os3_12.out.beside t' (by have := SZ1.out; have := SZ2.out; have := SZ3.out; have := SZ4.out; have := SZ5.out; have := SZ6.out; have := SZ7.out; have := SZ8.out; have := SZ9.out; have := SZ10.out; have := SZ11.out; have := SZ12.out; omega))
  have Ow1_13 := Lib.hid (Ow1_12.out.beside t' (by have := SZ1.out; have := SZ2.out; have := SZ3.out; have := SZ4.out; have := SZ5.out; have := SZ6.out; have := SZ7.out; have := SZ8.out; have := SZ9.out; have := SZ10.out; have := SZ11.out; have := SZ12.out; omega))
  have Ox1_13 := Lib.hid (Ox1_12.out.beside t' (by have := SZ1.out; have := SZ2.out; have := SZ3.out; have := SZ4.out; have := SZ5.out; have := SZ6.out; have := SZ7.out; have := SZ8.out; have := SZ9.out; have := SZ10.out; have := SZ11.out; have := SZ12.out; omega))
  have Og1_13 := Lib.hid (Og1_12.out.beside t' (by have := SZ1.out; have := SZ2.out; have := SZ3.out; have := SZ4.out; have := SZ5.out; have := SZ6.out; have := SZ7.out; have := SZ8.out; have := SZ9.out; have := SZ10.out; have := SZ11.out; have := SZ12.out; omega))
  have Ot1_13 := Lib.hid (Ot1_12.out.beside t' (by have := SZ1.out; have := SZ2.out; have := SZ3.out; have := SZ4.out; have := SZ5.out; have := SZ6.out; have := SZ7.out; have := SZ8.out; have := SZ9.out; have := SZ10.out; have := SZ11.out; have := SZ12.out; omega))
  have Ot3_13 := Lib.hid (Ot3_12.out.beside t' (by have := SZ1.out; have := SZ2.out; have := SZ3.out; have := SZ4.out; have := SZ5.out; have := SZ6.out; have := SZ7.out; have := SZ8.out; have := SZ9.out; have := SZ10.out; have := SZ11.out; have := SZ12.out; omega))
  have Ox3_13 := Lib.hid o'
  have SZ13 := Lib.hid (show u12.heap.size ≤ u13.heap.size from Nat.le_trans (by first | omega | (simp; done) | (simp; omega)) t'.size); clear o' t'
  go_wp2_with fail
  refine (c_eqI_E _ _ _ _ _ rz1 _ RL1.out Og1_13.out.reads Ow1_13.out.reads).mono ?_; rintro e u14 ⟨rfl, x'⟩
  have B14 := Lib.hid (B13.out.trans x')
  have Os1_14 := Lib.hid (Os1_13.out.on x')
  have Os3_14 := Lib.hid (Os3_13.out.on x')
  have Ow1_14 := Lib.hid (Ow1_13.out.on x')
  have Ox1_14 := Lib.hid (Ox1_13.out.on x')
  have Ox3_14 := Lib.hid (Ox3_13.out.on x')
  have Og1_14 := Lib.hid (Og1_13.out.on x')
  have Ot1_14 := Lib.hid (Ot1_13.out.on x')
  have Ot3_14 := Lib.hid (Ot3_13.out.on x')
  have SZ14 := Lib.hid (show u13.heap.size ≤ u14.heap.size from Nat.le_trans (by first | omega | (simp; done) | (simp; omega)) x'.size); clear x'
  obtain ⟨kk3, hkk⟩ : ∃ k : Nat, 1 + rz1.length = k := ⟨_, rfl⟩; have HKK3 := Lib.hid hkk; have hpos3 : (0 : Int) ≤ (kk3 : Int) := by omega
  clear hkk
  go_wp2_with fail
  refine (c_markI (u5.heap.size) (u6.heap.size) _ _ _ 1 _ _ RL1.out (by decide) Og1_14.out).mono ?_; rintro e u15 ⟨he, o', t'⟩; rw [HKK3.out] at he; subst he
  have B15 := Lib.hid (Touch.ext B14.out t' (by have := SZ1.out; have := SZ2.out; have := SZ3.out; have := SZ4.out; have := SZ5.out; have := SZ6.out; have := SZ7.out; have := SZ8.out; have := SZ9.out; have := SZ10.out; have := SZ11.out; have := SZ12.out; have := SZ13.out; have := SZ14.out; omega))
  have Os1_15 := Lib.hid (Os1_14.out.beside t' (by have := SZ1.out; have := SZ2.out; have := SZ3.out; have := SZ4.out; have := SZ5.out; have := SZ6.out; have := SZ7.out; have := SZ8.out; have := SZ9.out; have := SZ10.out; have := SZ11.out; have := SZ12.out; have := SZ13.out; have := SZ14.out; omega))
  have Os3_15 := Lib.hid (Os3_14.out.beside t' (by have := SZ1.out; have := SZ2.out; have := SZ3.out; have := SZ4.out; have := SZ5.out; have := SZ6.out; have := SZ7.out; have := SZ8.out; have := SZ9.out; have := SZ10.out; have := SZ11.out; have := SZ12.out; have := SZ13.out; have := SZ14.out; omega))
  have Ow1_15 := Lib.hid (Ow1_14.out.beside t' (by have := SZ1.out; have := SZ2.out; have := SZ3.out; have := SZ4.out; have := SZ5.out; have := SZ6.out; have := SZ7.out; have := SZ8.out; have := SZ9.out; have := SZ10.out; have := SZ11.out; have := SZ12.out; have := SZ13.out; have := SZ14.out; omega))
  have Ox1_15 := Lib.hid (Ox1_14.out.beside t' (by have := SZ1.out; have := SZ2.out; have := SZ3.out; have := SZ4.out; have := SZ5.out; have := SZ6.out; have := SZ7.out; have := SZ8.out; have := SZ9.out; have := SZ10.out; have := SZ11.out; have := SZ12.out; have := SZ13.out; have := SZ14.out; omega))
  have Ox3_15 := Lib.hid (Ox3_14.out.beside t' (by have := SZ1.out; have := SZ2.out; have := SZ3.out; have := SZ4.out; have := SZ5.out; have := SZ6.out; have := SZ7.out; have := SZ8.out; have := SZ9.out; have := SZ10.out; have := SZ11.out; have := SZ12.out; have := SZ13.out; have := SZ14.out; omega))
  have Ot1_15 := Lib.hid (Ot1_14.out.beside t' (by have := SZ1.out; have := SZ2.out; have := SZ3.out; have := SZ4.out; have := SZ5.out; have := SZ6.out; have := SZ7.out; have := SZ8.out; have := SZ9.out; have := SZ10.out; have := SZ11.out; have := SZ12.out; have := SZ13.out; have := SZ14.out; omega))
  have Ot3_15 := Lib.hid (Ot3_14.out.beside t' (by have := SZ1.out; have := SZ2.out; have := SZ3.out; have := SZ4.out; have := SZ5.out; have := SZ6.out; have := SZ7.out; have := SZ8.out; have := SZ9.out; have := SZ10.out; have := SZ11.out; have := SZ12.out; have := SZ13.out; have := SZ14.out; omega))
  have Og1_15 := Lib.hid o'
  have SZ15 := Lib.hid (show u14.heap.size ≤ u15.heap.size from Nat.le_trans (by first | omega | (simp; done) | (simp; omega)) t'.size); clear o' t'
  go_wp2_with fail
  refine (c_heldI_E _ _ _ 1 _ RL1.out (by decide) Og1_15.out.reads).mono ?_; rintro e u16 ⟨he, x'⟩; rw [HKK3.out] at he; subst he
  have B16 := Lib.hid (B15.out.trans x')
  have Os1_16 := Lib.hid (Os1_15.out.on x')
  have Os3_16 := Lib.hid (Os3_15.out.on x')
  have Ow1_16 := Lib.hid (Ow1_15.out.on x')
  have Ox1_16 := Lib.hid (Ox1_15.out.on x')
  have Ox3_16 := Lib.hid (Ox3_15.out.on x')
  have Og1_16 := Lib.hid (Og1_15.out.on x')
  have Ot1_16 := Lib.hid (Ot1_15.out.on x')
  have Ot3_16 := Lib.hid (Ot3_15.out.on x')
  have SZ16 := Lib.hid (show u15.heap.size ≤ u16.heap.size from Nat.le_trans (by first | omega | (simp; done) | (simp; omega)) x'.size); clear x'
  go_wp2_with fail
  refine (c_toI _ _ _ zs1 _ G1.out (H1.out.on B16.out)).mono ?_; rintro e u17 ⟨a1_y1, c1_y1, rfl, o', x'⟩
  have B17 := Lib.hid (B16.out.trans x')
  have Os1_17 := Lib.hid (Os1_16.out.on x')
  have Os3_17 := Lib.hid (Os3_16.out.on x')
  have Ow1_17 := Lib.hid (Ow1_16.out.on x')
  have Ox1_17 := Lib.hid (Ox1_16.out.on x')
  have Ox3_17 := Lib.hid (Ox3_16.out.on x')
  have Og1_17 := Lib.hid (Og1_16.out.on x')
  have Ot1_17 := Lib.hid (Ot1_16.out.on x')
  have Ot3_17 := Lib.hid (Ot3_16.out.on x')
  have Oy1_17 := Lib.hid (o'.wide (lo' := u16.heap.size) (hi' := u17.heap.size) (by first | omega | (simp; done) | (simp; omega)) (Nat.le_refl _)); clear o'
  have SZ17 := Lib.hid (show u16.heap.size ≤ u17.heap.size from Nat.le_trans (by first | omega | (simp; done) | (simp; omega)) x'.size); clear x'
  go_wp2_with fail
  refine (c_toI _ _ _ zs3 _ G3.out (H3.out.on B17.out)).mono ?_; rintro e u18 ⟨a1_y3, c1_y3, rfl, o', x'⟩
  have B18 := Lib.hid (B17.out.trans x')
  have Os1_18 := Lib.hid (Os1_17.out.on x')
  have Os3_18 := Lib.hid (Os3_17.out.on x')
  have Ow1_18 := Lib.hid (Ow1_17.out.on x')
  have Ox1_18 := Lib.hid (Ox1_17.out.on x')
  have Ox3_18 := Lib.hid (Ox3_17.out.on x')
  have Og1_18 := Lib.hid (Og1_17.out.on x')
  have Ot1_18 := Lib.hid (Ot1_17.out.on x')
  have Ot3_18 := Lib.hid (Ot3_17.out.on x')
  have Oy1_18 := Lib.hid (Oy1_17.out.on x')
  have Oy3_18 := Lib.hid (o'.wide (lo' := u17.heap.size) (hi' := u18.heap.size) (by first | omega | (simp; done) | (simp; omega)) (Nat.le_refl _)); clear o'
  have SZ18 := Lib.hid (show u17.heap.size ≤ u18.heap.size from Nat.le_trans (by first | omega | (simp; done) | (simp; omega)) x'.size); clear x'
  go_wp2_with fail
  refine (c_impl_JoinDistinct a0 _ _ _ zs1 a2 _ _ _ zs3 a4 a5 _ HV.out G1.out Oy1_18.out.reads G3.out Oy3_18.out.reads Oy1_18.out.sln Oy3_18.out.sln (HT.out.on B18.out)).mono ?_; rintro e u19 ⟨a1_h1, c1_h1, rfl, o1', x'⟩
  have B19 := Lib.hid (B18.out.trans x')
  have Os1_19 := Lib.hid (Os1_18.out.on x')
  have Os3_19 := Lib.hid (Os3_18.out.on x')
  have Ow1_19 := Lib.hid (Ow1_18.out.on x')
  have Ox1_19 := Lib.hid (Ox1_18.out.on x')
  have Ox3_19 := Lib.hid (Ox3_18.out.on x')
  have Og1_19 := Lib.hid (Og1_18.out.on x')
  have Ot1_19 := Lib.hid (Ot1_18.out.on x')
  have Ot3_19 := Lib.hid (Ot3_18.out.on x')
  have Oy1_19 := Lib.hid (Oy1_18.out.on x')
  have Oy3_19 := Lib.hid (Oy3_18.out.on x')
  have Oh1_19 := Lib.hid (o1'.wide (lo' := u18.heap.size) (hi' := u19.heap.size) (by first | omega | (simp; done) | (simp; omega)) (Nat.le_refl _)); clear o1'
  have SZ19 := Lib.hid (show u18.heap.size ≤ u19.heap.size from Nat.le_trans (by first | omega | (simp; done) | (simp; omega)) x'.size); clear x'
  go_wp2_with fail
  refine (c_eqI_E _ _ _ _ _ rz1 _ RL1.out Oh1_19.out.reads Ow1_19.out.reads).mono ?_; rintro e u20 ⟨rfl, x'⟩
  have B20 := Lib.hid (B19.out.trans x')
  have Os1_20 := Lib.hid (Os1_19.out.on x')
  have Os3_20 := Lib.hid (Os3_19.out.on x')
  have Ow1_20 := Lib.hid (Ow1_19.out.on x')
  have Ox1_20 := Lib.hid (Ox1_19.out.on x')
  have Ox3_20 := Lib.hid (Ox3_19.out.on x')
  have Og1_20 := Lib.hid (Og1_19.out.on x')
  have Ot1_20 := Lib.hid (Ot1_19.out.on x')
  have Ot3_20 := Lib.hid (Ot3_19.out.on x')
  have Oy1_20 := Lib.hid (Oy1_19.out.on x')
  have Oy3_20 := Lib.hid (Oy3_19.out.on x')
  have Oh1_20 := Lib.hid (Oh1_19.out.on x')
  have SZ20 := Lib.hid (show u19.heap.size ≤ u20.heap.size from Nat.le_trans (by first | omega | (simp; done) | (simp; omega)) x'.size); clear x'
  go_wp2_with fail
  refine (c_heldI_E _ _ _ 1 _ RL1.out (by decide) Og1_20.out.reads).mono ?_; rintro e u21 ⟨he, x'⟩; rw [HKK3.out] at he; subst he
  have B21 := Lib.hid (B20.out.trans x')
  have Os1_21 := Lib.hid (Os1_20.out.on x')
  have Os3_21 := Lib.hid (Os3_20.out.on x')
  have Ow1_21 := Lib.hid (Ow1_20.out.on x')
  have Ox1_21 := Lib.hid (Ox1_20.out.on x')
  have Ox3_21 := Lib.hid (Ox3_20.out.on x')
  have Og1_21 := Lib.hid (Og1_20.out.on x')
  have Ot1_21 := Lib.hid (Ot1_20.out.on x')
  have Ot3_21 := Lib.hid (Ot3_20.out.on x')
  have Oy1_21 := Lib.hid (Oy1_20.out.on x')
  have Oy3_21 := Lib.hid (Oy3_20.out.on x')
  have Oh1_21 := Lib.hid (Oh1_20.out.on x')
  have SZ21 := Lib.hid (show u20.heap.size ≤ u21.heap.size from Nat.le_trans (by first | omega | (simp; done) | (simp; omega)) x'.size); clear x'
  go_wp2
  go_ret
  exact ⟨rfl, B21.out⟩
end Go.Proofs.YtplngjbllllanaaDoor
