/- The walk of the law FnExactHeavyTops. -/
import Derived.Test.YtfmjohpmfcmpoabHvt
import Derived.Deep.RegionHeld3
import Derived.Deep.DeepCutAuto
import Derived.Deep.LoopGhost
import Derived.WalkLawsBesides
namespace Go.Proofs.Ytfmjohpmfcmpoab
open Go.ChangeShapes Go.WideShapes Go.ChangeAt Go.RowKit
set_option linter.unusedVariables false
set_option maxHeartbeats 8000000 in
theorem walk_FnExactHeavyTops (R0 : Int) (p0_1 : Option Addr) (len0_1 cap0_1 : Nat) (z0_1 : List Int) (p0_2 : Option Addr) (len0_2 cap0_2 : Nat) (z0_2 : List Int) (p0_3 : Option Addr) (len0_3 cap0_3 : Nat) (z0_3 : List Int) (a1 : Int) (w : World) (w0_0 : (Lit.int .i64 R0).wf = true) (w0_1 : IsRow .i64 w p0_1 len0_1 cap0_1 z0_1) (w0_2 : IsRow .i64 w p0_2 len0_2 cap0_2 z0_2) (w0_3 : IsRow .i64 w p0_3 len0_3 cap0_3 z0_3) (w1 : (Lit.int .i64 a1).wf = true) :
    Calls Try.prog 5 #[.agg #[.int .i64 R0, .slice p0_1 len0_1 cap0_1, .slice p0_2 len0_2 cap0_2, .slice p0_3 len0_3 cap0_3], .int .i64 a1] w fun e w' => e = .returned (.bool true) ∧ Below w.heap.size w w' := by
  clear w0_0
  obtain ⟨h0_1, m0_1⟩ := w0_1.rd
  obtain ⟨zs0_1, hz0_1⟩ : ∃ zs, z0_1.take len0_1 = zs := ⟨_, rfl⟩
  rw [hz0_1] at h0_1
  have hl0_1 := h0_1.int.1
  subst hl0_1
  have H0_1 := Lib.hid h0_1; have M0_1 := Lib.hid m0_1
  clear hz0_1 h0_1 m0_1 w0_1
  obtain ⟨h0_2, m0_2⟩ := w0_2.rd
  obtain ⟨zs0_2, hz0_2⟩ : ∃ zs, z0_2.take len0_2 = zs := ⟨_, rfl⟩
  rw [hz0_2] at h0_2
  have hl0_2 := h0_2.int.1
  subst hl0_2
  have H0_2 := Lib.hid h0_2; have M0_2 := Lib.hid m0_2
  clear hz0_2 h0_2 m0_2 w0_2
  obtain ⟨h0_3, m0_3⟩ := w0_3.rd
  obtain ⟨zs0_3, hz0_3⟩ : ∃ zs, z0_3.take len0_3 = zs := ⟨_, rfl⟩
  rw [hz0_3] at h0_3
  have hl0_3 := h0_3.int.1
  subst hl0_3
  have H0_3 := Lib.hid h0_3; have M0_3 := Lib.hid m0_3
  clear hz0_3 h0_3 m0_3 w0_3
  have H0 := Lib.hid (show Reads3 w p0_1 zs0_1.length (ints zs0_1) p0_2 zs0_2.length (ints zs0_2) p0_3 zs0_3.length (ints zs0_3) from ⟨H0_1.out, H0_2.out, H0_3.out⟩)
  clear w1
  have BA0_0 := Lib.hid (Box.alloc_at w #[.int .i64 R0, .slice p0_1 zs0_1.length cap0_1, .slice p0_2 zs0_2.length cap0_2, .slice p0_3 zs0_3.length cap0_3] 24 (b := w.heap.size) (by first | omega | (simp; done) | (simp; omega)))
  have B0 := Lib.hid (show Ext w (w.alloc (.cells #[.int .i64 R0, .slice p0_1 zs0_1.length cap0_1, .slice p0_2 zs0_2.length cap0_2, .slice p0_3 zs0_3.length cap0_3] 24)) from by (repeat (first | assumption | exact Ext.refl _ | (with_reducible refine Ext.stepS ?_ (by first | exact Nat.le_refl _ | (simp; done) | (simp; omega)) _) | (with_reducible refine Ext.stepN ?_ _) | (with_reducible refine Ext.stepD ?_) | (with_reducible refine Ext.stepA ?_ _))))
  by_cases g0 : 1048576 < zs0_1.length + zs0_2.length + zs0_3.length
  · go_enter Try.func5, Try.ntmps5
    go_wp2_with fail
    refine (c_szP_no R0 _ _ _ _ _ _ _ _ _ 1048576 _ g0 (by decide) M0_1.out M0_2.out M0_3.out).mono ?_; rintro e u1 ⟨rfl, x'⟩
    have X := B0.out.trans x'
    clear x'
    go_wp2
    go_ret
    exact ⟨rfl, X⟩
  have G0 := Lib.hid (show zs0_1.length + zs0_2.length + zs0_3.length ≤ 1048576 by omega)
  clear g0
  obtain ⟨rz0, rb1, hR⟩ : ∃ rz0 rb1, heavyR R0 zs0_1 zs0_2 zs0_3 a1 = ((rz0 : List Int), (rb1 : Bool)) := ⟨_, _, rfl⟩
  have RL0 := Lib.hid (show rz0.length ≤ 1048576 from heavyR_le hR)
  have HV := Lib.hid hR
  clear hR
  go_enter Try.func5, Try.ntmps5
  have hnn0 : (0 : Int) ≤ ((1048576 - (zs0_1.length + zs0_2.length + zs0_3.length) : Nat) : Int) := by omega
  obtain ⟨left0, hleft0⟩ : ∃ l : Nat, 1048576 - (zs0_1.length + zs0_2.length + zs0_3.length) = l := ⟨_, rfl⟩; rw [hleft0] at hnn0; have HLF0 := Lib.hid hleft0; clear hleft0
  go_wp2_with fail
  refine (c_szP_ok R0 _ _ _ _ _ _ _ _ _ 1048576 _ G0.out (by decide)).mono ?_; rw [HLF0.out]; rintro e u1 ⟨rfl, x'⟩
  have B1 := Lib.hid (B0.out.trans x')
  have BA0_1 := Lib.hid (BA0_0.out.on x')
  have SZ1 := Lib.hid (show w.heap.size + 1 ≤ u1.heap.size from Nat.le_trans (by first | omega | (simp; done) | (simp; omega)) x'.size); clear x'
  obtain ⟨fA00, fA01, fA02, fA03⟩ := BA0_1.out.four
  go_wp2_with fail
  clear fA00 fA01 fA02 fA03
  refine (c_toP R0 _ _ zs0_1 _ _ zs0_2 _ _ zs0_3 _ G0.out (H0.out.on B1.out)).mono ?_; rintro e u2 ⟨a1_s0, c1_s0, a2_s0, c2_s0, a3_s0, c3_s0, rfl, o', x'⟩
  have B2 := Lib.hid (B1.out.trans x')
  have BA0_2 := Lib.hid (BA0_1.out.on x')
  have Os0_2 := Lib.hid (o'.wide (lo' := u1.heap.size) (hi' := u2.heap.size) (by first | omega | (simp; done) | (simp; omega)) (Nat.le_refl _)); clear o'
  have SZ2 := Lib.hid (show u1.heap.size ≤ u2.heap.size from Nat.le_trans (by first | omega | (simp; done) | (simp; omega)) x'.size); clear x'
  go_wp2_with fail
  refine (c_spec_HeavyTops R0 _ _ zs0_1 _ _ zs0_2 _ _ zs0_3 a1 _ HV.out G0.out Os0_2.out.reads Os0_2.out.o1.2.1).mono ?_; rintro e u3 ⟨a1_w0, c1_w0, rfl, o0', x'⟩
  have B3 := Lib.hid (B2.out.trans x')
  have BA0_3 := Lib.hid (BA0_2.out.on x')
  have Os0_3 := Lib.hid (Os0_2.out.on x')
  have Ow0_3 := Lib.hid (o0'.wide (lo' := u2.heap.size) (hi' := u3.heap.size) (by first | omega | (simp; done) | (simp; omega)) (Nat.le_refl _)); clear o0'
  have SZ3 := Lib.hid (show u2.heap.size ≤ u3.heap.size from Nat.le_trans (by first | omega | (simp; done) | (simp; omega)) x'.size); clear x'
  obtain ⟨fA00, fA01, fA02, fA03⟩ := BA0_3.out.four
  go_wp2_with fail
  clear fA00 fA01 fA02 fA03
  refine (c_toP R0 _ _ zs0_1 _ _ zs0_2 _ _ zs0_3 _ G0.out (H0.out.on B3.out)).mono ?_; rintro e u4 ⟨a1_x0, c1_x0, a2_x0, c2_x0, a3_x0, c3_x0, rfl, o', x'⟩
  have B4 := Lib.hid (B3.out.trans x')
  have BA0_4 := Lib.hid (BA0_3.out.on x')
  have Os0_4 := Lib.hid (Os0_3.out.on x')
  have Ow0_4 := Lib.hid (Ow0_3.out.on x')
  have Ox0_4 := Lib.hid (o'.wide (lo' := u3.heap.size) (hi' := u4.heap.size) (by first | omega | (simp; done) | (simp; omega)) (Nat.le_refl _)); clear o'
  have SZ4 := Lib.hid (show u3.heap.size ≤ u4.heap.size from Nat.le_trans (by first | omega | (simp; done) | (simp; omega)) x'.size); clear x'
  replace B4 := Lib.hid (B4.out.stepA (.cells #[.int .i64 R0, .slice a1_x0 zs0_1.length c1_x0, .slice a2_x0 zs0_2.length c2_x0, .slice a3_x0 zs0_3.length c3_x0] 26))
  replace BA0_4 := Lib.hid (BA0_4.out.past (.cells #[.int .i64 R0, .slice a1_x0 zs0_1.length c1_x0, .slice a2_x0 zs0_2.length c2_x0, .slice a3_x0 zs0_3.length c3_x0] 26))
  replace Os0_4 := Lib.hid (Os0_4.out.on (Ext.alloc u4 (.cells #[.int .i64 R0, .slice a1_x0 zs0_1.length c1_x0, .slice a2_x0 zs0_2.length c2_x0, .slice a3_x0 zs0_3.length c3_x0] 26)))
  replace Ow0_4 := Lib.hid (Ow0_4.out.on (Ext.alloc u4 (.cells #[.int .i64 R0, .slice a1_x0 zs0_1.length c1_x0, .slice a2_x0 zs0_2.length c2_x0, .slice a3_x0 zs0_3.length c3_x0] 26)))
  replace Ox0_4 := Lib.hid (Ox0_4.out.on (Ext.alloc u4 (.cells #[.int .i64 R0, .slice a1_x0 zs0_1.length c1_x0, .slice a2_x0 zs0_2.length c2_x0, .slice a3_x0 zs0_3.length c3_x0] 26)))
  have Bx0_4 := Lib.hid (Box.alloc u4 #[.int .i64 R0, .slice a1_x0 zs0_1.length c1_x0, .slice a2_x0 zs0_2.length c2_x0, .slice a3_x0 zs0_3.length c3_x0] 26)
  obtain ⟨fx00, fx01, fx02, fx03⟩ := Bx0_4.out.four
  go_wp2_with fail
  clear fx00 fx01 fx02 fx03
  refine (c_impl_HeavyTops R0 _ _ zs0_1 _ _ zs0_2 _ _ zs0_3 a1 _ HV.out G0.out Ox0_4.out.reads Ox0_4.out.o1.2.1).mono ?_; rintro e u5 ⟨a1_g0, c1_g0, rfl, o0', x'⟩
  have B5 := Lib.hid (B4.out.trans x')
  have BA0_5 := Lib.hid (BA0_4.out.on x')
  have Bx0_5 := Lib.hid (Bx0_4.out.on x')
  have Os0_5 := Lib.hid (Os0_4.out.on x')
  have Ow0_5 := Lib.hid (Ow0_4.out.on x')
  have Ox0_5 := Lib.hid (Ox0_4.out.on x')
  have Og0_5 := Lib.hid (o0'.wide (lo' := u4.heap.size + 1) (hi' := u5.heap.size) (by first | omega | (simp; done) | (simp; omega)) (Nat.le_refl _)); clear o0'
  have SZ5 := Lib.hid (show u4.heap.size + 1 ≤ u5.heap.size from Nat.le_trans (by first | omega | (simp; done) | (simp; omega)) x'.size); clear x'
  go_wp2_with fail
  refine (c_eqI_E _ _ _ _ _ rz0 _ RL0.out Og0_5.out.reads Ow0_5.out.reads).mono ?_; rintro e u6 ⟨rfl, x'⟩
  have B6 := Lib.hid (B5.out.trans x')
  have BA0_6 := Lib.hid (BA0_5.out.on x')
  have Bx0_6 := Lib.hid (Bx0_5.out.on x')
  have Os0_6 := Lib.hid (Os0_5.out.on x')
  have Ow0_6 := Lib.hid (Ow0_5.out.on x')
  have Ox0_6 := Lib.hid (Ox0_5.out.on x')
  have Og0_6 := Lib.hid (Og0_5.out.on x')
  have SZ6 := Lib.hid (show u5.heap.size ≤ u6.heap.size from Nat.le_trans (by first | omega | (simp; done) | (simp; omega)) x'.size); clear x'
  obtain ⟨fA00, fA01, fA02, fA03⟩ := BA0_6.out.four
  obtain ⟨fx00, fx01, fx02, fx03⟩ := Bx0_6.out.four
  go_wp2_with fail
  go_region_held3 (fun w' => w'.cell? ⟨w.heap.size, 0, none⟩ = some (.int .i64 R0) ∧ w'.cell? ⟨w.heap.size, 1, none⟩ = some (.slice p0_1 zs0_1.length cap0_1) ∧ w'.cell? ⟨w.heap.size, 2, none⟩ = some (.slice p0_2 zs0_2.length cap0_2) ∧ w'.cell? ⟨w.heap.size, 3, none⟩ = some (.slice p0_3 zs0_3.length cap0_3) ∧ w'.cell? ⟨u4.heap.size, 0, none⟩ = some (.int .i64 R0) ∧ w'.cell? ⟨u4.heap.size, 1, none⟩ = some (.slice a1_x0 zs0_1.length c1_x0) ∧ w'.cell? ⟨u4.heap.size, 2, none⟩ = some (.slice a2_x0 zs0_2.length c2_x0) ∧ w'.cell? ⟨u4.heap.size, 3, none⟩ = some (.slice a3_x0 zs0_3.length c3_x0)) (first | exact ⟨KA.1, KA.2.1, KA.2.2.1, KA.2.2.2, KX.1, KX.2.1, KX.2.2.1, KX.2.2.2⟩ | go_keep) (first | (go_at_call 17; refine (c_toP R0 _ _ zs0_1 _ _ zs0_2 _ _ zs0_3 _ G0.out (H0.out.on B6.out.stepD)).mono ?_; rintro e u7 ⟨a1_t0, c1_t0, a2_t0, c2_t0, a3_t0, c3_t0, rfl, o', x'⟩; have B7 := Lib.hid (B6.out.stepD.trans x'); have BA0_7 := Lib.hid ((BA0_6.out.on (Ext.drew _)).on x'); have Bx0_7 := Lib.hid ((Bx0_6.out.on (Ext.drew _)).on x'); have Os0_7 := Lib.hid ((Os0_6.out.on (Ext.drew _)).on x'); have Ow0_7 := Lib.hid ((Ow0_6.out.on (Ext.drew _)).on x'); have Ox0_7 := Lib.hid ((Ox0_6.out.on (Ext.drew _)).on x'); have Og0_7 := Lib.hid ((Og0_6.out.on (Ext.drew _)).on x'); have Ot0_7 := Lib.hid (o'.wide (lo' := u6.heap.size) (hi' := u7.heap.size) (by first | omega | (simp; done) | (simp; omega)) (Nat.le_refl _)); have SZ7 := Lib.hid (show u6.heap.size ≤ u7.heap.size from Nat.le_trans (by first | omega | (simp; done) | (simp; omega)) x'.size); have KA := BA0_7.out.four; have KX := Bx0_7.out.four; clear o' x') | (go_at_call 19; refine (c_eqP R0 _ _ _ _ zs0_1 _ _ _ _ zs0_2 _ _ _ _ zs0_3 _ G0.out Ox0_7.out.reads Ot0_7.out.reads).mono ?_; rintro e u8 ⟨rfl, x'⟩; have B8 := Lib.hid (B7.out.trans x'); have BA0_8 := Lib.hid (BA0_7.out.on x'); have Bx0_8 := Lib.hid (Bx0_7.out.on x'); have Os0_8 := Lib.hid (Os0_7.out.on x'); have Ow0_8 := Lib.hid (Ow0_7.out.on x'); have Ox0_8 := Lib.hid (Ox0_7.out.on x'); have Og0_8 := Lib.hid (Og0_7.out.on x'); have Ot0_8 := Lib.hid (Ot0_7.out.on x'); have SZ8 := Lib.hid (show u7.heap.size ≤ u8.heap.size from x'.size); clear KA KX; have KA := BA0_8.out.four; have KX := Bx0_8.out.four; clear x'))
  clear KA KX fA00 fA01 fA02 fA03 fx00 fx01 fx02 fx03
  obtain ⟨kk1, hkk⟩ : ∃ k : Nat, 1 + zs0_1.length + zs0_2.length + zs0_3.length = k := ⟨_, rfl⟩; have HKK1 := Lib.hid hkk; have hpos1 : (0 : Int) ≤ (kk1 : Int) := by omega
  clear hkk
  obtain ⟨fx00, fx01, fx02, fx03⟩ := Bx0_8.out.four
  go_wp2_with fail
  clear fx00 fx01 fx02 fx03
  refine (c_markP R0 (u3.heap.size) (u4.heap.size) _ _ _ _ _ _ _ _ _ 1 _ _ _ _ G0.out (by decide) Ox0_8.out (by have := SZ1.out; have := SZ2.out; have := SZ3.out; have := SZ4.out; have := SZ5.out; have := SZ6.out; have := SZ7.out; have := SZ8.out; omega)).mono ?_; rintro e u9 ⟨he, o', t'⟩; rw [HKK1.out] at he; subst he
  have B9 := Lib.hid (Touch.ext B8.out t' (by have := SZ1.out; have := SZ2.out; have := SZ3.out; have := SZ4.out; have := SZ5.out; have := SZ6.out; have := SZ7.out; have := SZ8.out; omega))
  have BA0_9 := Lib.hid (BA0_8.out.beside t' (by have := SZ1.out; have := SZ2.out; have := SZ3.out; have := SZ4.out; have := SZ5.out; have := SZ6.out; have := SZ7.out; have := SZ8.out; omega))
  have Bx0_9 := Lib.hid (Bx0_8.out.beside t' (by have := SZ1.out; have := SZ2.out; have := SZ3.out; have := SZ4.out; have := SZ5.out; have := SZ6.out; have := SZ7.out; have := SZ8.out; omega))
  have Os0_9 := Lib.hid (Os0_8.out.beside t' (by have := SZ1.out; have := SZ2.out; have := SZ3.out; have := SZ4.out; have := SZ5.out; have := SZ6.out; have := SZ7.out; have := SZ8.out; omega))
  have Ow0_9 := Lib.hid (Ow0_8.out.beside t' (by have := SZ1.out; have := SZ2.out; have := SZ3.out; have := SZ4.out; have := SZ5.out; have := SZ6.out; have := SZ7.out; have := SZ8.out; omega))
  have Og0_9 := Lib.hid (Og0_8.out.beside t' (by have := SZ1.out; have := SZ2.out; have := SZ3.out; have := SZ4.out; have := SZ5.out; have := SZ6.out; have := SZ7.out; have := SZ8.out; omega))
  have Ot0_9 := Lib.hid (Ot0_8.out.beside t' (by have := SZ1.out; have := SZ2.out; have := SZ3.out; have := SZ4.out; have := SZ5.out; have := SZ6.out; have := SZ7.out; have := SZ8.out; omega))
  have Ox0_9 := Lib.hid o'
  have SZ9 := Lib.hid (show u8.heap.size ≤ u9.heap.size from Nat.le_trans (by first | omega | (simp; done) | (simp; omega)) t'.size); clear o' t'
  go_wp2_with fail
  refine (c_eqI_E _ _ _ _ _ rz0 _ RL0.out Og0_9.out.reads Ow0_9.out.reads).mono ?_; rintro e u10 ⟨rfl, x'⟩
  have B10 := Lib.hid (B9.out.trans x')
  have BA0_10 := Lib.hid (BA0_9.out.on x')
  have Bx0_10 := Lib.hid (Bx0_9.out.on x')
  have Os0_10 := Lib.hid (Os0_9.out.on x')
  have Ow0_10 := Lib.hid (Ow0_9.out.on x')
  have Ox0_10 := Lib.hid (Ox0_9.out.on x')
  have Og0_10 := Lib.hid (Og0_9.out.on x')
  have Ot0_10 := Lib.hid (Ot0_9.out.on x')
  have SZ10 := Lib.hid (show u9.heap.size ≤ u10.heap.size from Nat.le_trans (by first | omega | (simp; done) | (simp; omega)) x'.size); clear x'
  obtain ⟨kk2, hkk⟩ : ∃ k : Nat, 1 + rz0.length = k := ⟨_, rfl⟩; have HKK2 := Lib.hid hkk; have hpos2 : (0 : Int) ≤ (kk2 : Int) := by omega
  clear hkk
  go_wp2_with fail
  refine (c_markI (u4.heap.size + 1) (u5.heap.size) _ _ _ 1 _ _ RL0.out (by decide) Og0_10.out).mono ?_; rintro e u11 ⟨he, o', t'⟩; rw [HKK2.out] at he; subst he
  have B11 := Lib.hid (Touch.ext B10.out t' (by have := SZ1.out; have := SZ2.out; have := SZ3.out; have := SZ4.out; have := SZ5.out; have := SZ6.out; have := SZ7.out; have := SZ8.out; have := SZ9.out; have := SZ10.out; omega))
  have BA0_11 := Lib.hid (BA0_10.out.beside t' (by have := SZ1.out; have := SZ2.out; have := SZ3.out; have := SZ4.out; have := SZ5.out; have := SZ6.out; have := SZ7.out; have := SZ8.out; have := SZ9.out; have := SZ10.out; omega))
  have Bx0_11 := Lib.hid (Bx0_10.out.beside t' (by have := SZ1.out; have := SZ2.out; have := SZ3.out; have := SZ4.out; have := SZ5.out; have := SZ6.out; have := SZ7.out; have := SZ8.out; have := SZ9.out; have := SZ10.out; omega))
  have Os0_11 := Lib.hid (Os0_10.out.beside t' (by have := SZ1.out; have := SZ2.out; have := SZ3.out; have := SZ4.out; have := SZ5.out; have := SZ6.out; have := SZ7.out; have := SZ8.out; have := SZ9.out; have := SZ10.out; omega))
  have Ow0_11 := Lib.hid (Ow0_10.out.beside t' (by have := SZ1.out; have := SZ2.out; have := SZ3.out; have := SZ4.out; have := SZ5.out; have := SZ6.out; have := SZ7.out; have := SZ8.out; have := SZ9.out; have := SZ10.out; omega))
  have Ox0_11 := Lib.hid (Ox0_10.out.beside t' (by have := SZ1.out; have := SZ2.out; have := SZ3.out; have := SZ4.out; have := SZ5.out; have := SZ6.out; have := SZ7.out; have := SZ8.out; have := SZ9.out; have := SZ10.out; omega))
  have Ot0_11 := Lib.hid (Ot0_10.out.beside t' (by have := SZ1.out; have := SZ2.out; have := SZ3.out; have := SZ4.out; have := SZ5.out; have := SZ6.out; have := SZ7.out; have := SZ8.out; have := SZ9.out; have := SZ10.out; omega))
  have Og0_11 := Lib.hid o'
  have SZ11 := Lib.hid (show u10.heap.size ≤ u11.heap.size from Nat.le_trans (by first | omega | (simp; done) | (simp; omega)) t'.size); clear o' t'
  go_wp2_with fail
  refine (c_heldI_E _ _ _ 1 _ RL0.out (by decide) Og0_11.out.reads).mono ?_; rintro e u12 ⟨he, x'⟩; rw [HKK2.out] at he; subst he
  have B12 := Lib.hid (B11.out.trans x')
  have BA0_12 := Lib.hid (BA0_11.out.on x')
  have Bx0_12 := Lib.hid (Bx0_11.out.on x')
  have Os0_12 := Lib.hid (Os0_11.out.on x')
  have Ow0_12 := Lib.hid (Ow0_11.out.on x')
  have Ox0_12 := Lib.hid (Ox0_11.out.on x')
  have Og0_12 := Lib.hid (Og0_11.out.on x')
  have Ot0_12 := Lib.hid (Ot0_11.out.on x')
  have SZ12 := Lib.hid (show u11.heap.size ≤ u12.heap.size from Nat.le_trans (by first | omega | (simp; done) | (simp; omega)) x'.size); clear x'
  obtain ⟨fA00, fA01, fA02, fA03⟩ := BA0_12.out.four
  go_wp2_with fail
  clear fA00 fA01 fA02 fA03
  refine (c_toP R0 _ _ zs0_1 _ _ zs0_2 _ _ zs0_3 _ G0.out (H0.out.on B12.out)).mono ?_; rintro e u13 ⟨a1_y0, c1_y0, a2_y0, c2_y0, a3_y0, c3_y0, rfl, o', x'⟩
  have B13 := Lib.hid (B12.out.trans x')
  have BA0_13 := Lib.hid (BA0_12.out.on x')
  have Bx0_13 := Lib.hid (Bx0_12.out.on x')
  have Os0_13 := Lib.hid (Os0_12.out.on x')
  have Ow0_13 := Lib.hid (Ow0_12.out.on x')
  have Ox0_13 := Lib.hid (Ox0_12.out.on x')
  have Og0_13 := Lib.hid (Og0_12.out.on x')
  have Ot0_13 := Lib.hid (Ot0_12.out.on x')
  have Oy0_13 := Lib.hid (o'.wide (lo' := u12.heap.size) (hi' := u13.heap.size) (by first | omega | (simp; done) | (simp; omega)) (Nat.le_refl _)); clear o'
  have SZ13 := Lib.hid (show u12.heap.size ≤ u13.heap.size from Nat.le_trans (by first | omega | (simp; done) | (simp; omega)) x'.size); clear x'
  go_wp2_with fail
  refine (c_impl_HeavyTops R0 _ _ zs0_1 _ _ zs0_2 _ _ zs0_3 a1 _ HV.out G0.out Oy0_13.out.reads Oy0_13.out.o1.2.1).mono ?_; rintro e u14 ⟨a1_h0, c1_h0, rfl, o0', x'⟩
  have B14 := Lib.hid (B13.out.trans x')
  have BA0_14 := Lib.hid (BA0_13.out.on x')
  have Bx0_14 := Lib.hid (Bx0_13.out.on x')
  have Os0_14 := Lib.hid (Os0_13.out.on x')
  have Ow0_14 := Lib.hid (Ow0_13.out.on x')
  have Ox0_14 := Lib.hid (Ox0_13.out.on x')
  have Og0_14 := Lib.hid (Og0_13.out.on x')
  have Ot0_14 := Lib.hid (Ot0_13.out.on x')
  have Oy0_14 := Lib.hid (Oy0_13.out.on x')
  have Oh0_14 := Lib.hid (o0'.wide (lo' := u13.heap.size) (hi' := u14.heap.size) (by first | omega | (simp; done) | (simp; omega)) (Nat.le_refl _)); clear o0'
  have SZ14 := Lib.hid (show u13.heap.size ≤ u14.heap.size from Nat.le_trans (by first | omega | (simp; done) | (simp; omega)) x'.size); clear x'
  go_wp2_with fail
  refine (c_eqI_E _ _ _ _ _ rz0 _ RL0.out Oh0_14.out.reads Ow0_14.out.reads).mono ?_; rintro e u15 ⟨rfl, x'⟩
  have B15 := Lib.hid (B14.out.trans x')
  have BA0_15 := Lib.hid (BA0_14.out.on x')
  have Bx0_15 := Lib.hid (Bx0_14.out.on x')
  have Os0_15 := Lib.hid (Os0_14.out.on x')
  have Ow0_15 := Lib.hid (Ow0_14.out.on x')
  have Ox0_15 := Lib.hid (Ox0_14.out.on x')
  have Og0_15 := Lib.hid (Og0_14.out.on x')
  have Ot0_15 := Lib.hid (Ot0_14.out.on x')
  have Oy0_15 := Lib.hid (Oy0_14.out.on x')
  have Oh0_15 := Lib.hid (Oh0_14.out.on x')
  have SZ15 := Lib.hid (show u14.heap.size ≤ u15.heap.size from Nat.le_trans (by first | omega | (simp; done) | (simp; omega)) x'.size); clear x'
  go_wp2_with fail
  refine (c_heldI_E _ _ _ 1 _ RL0.out (by decide) Og0_15.out.reads).mono ?_; rintro e u16 ⟨he, x'⟩; rw [HKK2.out] at he; subst he
  have B16 := Lib.hid (B15.out.trans x')
  have BA0_16 := Lib.hid (BA0_15.out.on x')
  have Bx0_16 := Lib.hid (Bx0_15.out.on x')
  have Os0_16 := Lib.hid (Os0_15.out.on x')
  have Ow0_16 := Lib.hid (Ow0_15.out.on x')
  have Ox0_16 := Lib.hid (Ox0_15.out.on x')
  have Og0_16 := Lib.hid (Og0_15.out.on x')
  have Ot0_16 := Lib.hid (Ot0_15.out.on x')
  have Oy0_16 := Lib.hid (Oy0_15.out.on x')
  have Oh0_16 := Lib.hid (Oh0_15.out.on x')
  have SZ16 := Lib.hid (show u15.heap.size ≤ u16.heap.size from Nat.le_trans (by first | omega | (simp; done) | (simp; omega)) x'.size); clear x'
  go_wp2
  go_ret
  exact ⟨rfl, B16.out⟩
end Go.Proofs.Ytfmjohpmfcmpoab
