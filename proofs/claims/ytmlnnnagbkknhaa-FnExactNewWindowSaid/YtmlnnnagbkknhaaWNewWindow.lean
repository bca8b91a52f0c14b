/- The walk of the law FnExactNewWindow. -/
import Derived.Test.YtmlnnnagbkknhaaWnd
import Derived.Deep.RegionHeld3
import Derived.Deep.DeepCutAuto
import Derived.Deep.LoopGhost
import Derived.WalkLawsBesides
namespace Go.Proofs.Ytmlnnnagbkknhaa
open Go.ChangeShapes Go.WideShapes Go.ChangeAt Go.RowKit
set_option linter.unusedVariables false
set_option maxHeartbeats 8000000 in
theorem walk_FnExactNewWindow (a0 : Int) (a1 : Int) (w : World) (w0 : (Lit.int .i64 a0).wf = true) (w1 : (Lit.int .i64 a1).wf = true) :
    Calls Try.prog 5 #[.int .i64 a0, .int .i64 a1] w fun e w' => e = .returned (.bool true) ∧ Below w.heap.size w w' := by
  clear w0
  clear w1
  have B0 := Lib.hid (show Ext w w from Ext.refl w)
  obtain ⟨r0L, r0P, rz0_1, rz0_2, rb1, hR⟩ : ∃ r0L r0P rz0_1 rz0_2 rb1, newW a0 a1 = ((⟨r0L, r0P, rz0_1, rz0_2⟩ : NV), (rb1 : Bool)) := ⟨_, _, _, _, _, rfl⟩
  have RL0 := Lib.hid (show rz0_1.length + rz0_2.length ≤ 1048576 from newW_le hR)
  have HV := Lib.hid hR
  clear hR
  go_enter Try.func5, Try.ntmps5
  go_wp2_with fail
  refine (c_spec_NewWindow a0 a1 _ HV.out ).mono ?_; rintro e u1 ⟨a1_w0, c1_w0, a2_w0, c2_w0, rfl, o0', x'⟩
  have B1 := Lib.hid (B0.out.trans x')
  have Ow0_1 := Lib.hid (o0'.wide (lo' := w.heap.size) (hi' := u1.heap.size) (by first | omega | (simp; done) | (simp; omega)) (Nat.le_refl _)); clear o0'
  have SZ1 := Lib.hid (show w.heap.size ≤ u1.heap.size from Nat.le_trans (by first | omega | (simp; done) | (simp; omega)) x'.size); clear x'
  replace B1 := Lib.hid (B1.out.stepA (.cells #[.int .i64 r0L, .int .i64 r0P, .slice a1_w0 rz0_1.length c1_w0, .slice a2_w0 rz0_2.length c2_w0] 27))
  replace Ow0_1 := Lib.hid (Ow0_1.out.on (Ext.alloc u1 (.cells #[.int .i64 r0L, .int .i64 r0P, .slice a1_w0 rz0_1.length c1_w0, .slice a2_w0 rz0_2.length c2_w0] 27)))
  have Bw0_1 := Lib.hid (Box.alloc u1 #[.int .i64 r0L, .int .i64 r0P, .slice a1_w0 rz0_1.length c1_w0, .slice a2_w0 rz0_2.length c2_w0] 27)
  go_wp2_with fail
  refine (c_impl_NewWindow a0 a1 _ HV.out ).mono ?_; rintro e u2 ⟨a1_g0, c1_g0, a2_g0, c2_g0, rfl, o0', x'⟩
  have B2 := Lib.hid (B1.out.trans x')
  have Bw0_2 := Lib.hid (Bw0_1.out.on x')
  have Ow0_2 := Lib.hid (Ow0_1.out.on x')
  have Og0_2 := Lib.hid (o0'.wide (lo' := u1.heap.size + 1) (hi' := u2.heap.size) (by first | omega | (simp; done) | (simp; omega)) (Nat.le_refl _)); clear o0'
  have SZ2 := Lib.hid (show u1.heap.size + 1 ≤ u2.heap.size from Nat.le_trans (by first | omega | (simp; done) | (simp; omega)) x'.size); clear x'
  replace B2 := Lib.hid (B2.out.stepA (.cells #[.int .i64 r0L, .int .i64 r0P, .slice a1_g0 rz0_1.length c1_g0, .slice a2_g0 rz0_2.length c2_g0] 27))
  replace Bw0_2 := Lib.hid (Bw0_2.out.past (.cells #[.int .i64 r0L, .int .i64 r0P, .slice a1_g0 rz0_1.length c1_g0, .slice a2_g0 rz0_2.length c2_g0] 27))
  replace Ow0_2 := Lib.hid (Ow0_2.out.on (Ext.alloc u2 (.cells #[.int .i64 r0L, .int .i64 r0P, .slice a1_g0 rz0_1.length c1_g0, .slice a2_g0 rz0_2.length c2_g0] 27)))
  replace Og0_2 := Lib.hid (Og0_2.out.on (Ext.alloc u2 (.cells #[.int .i64 r0L, .int .i64 r0P, .slice a1_g0 rz0_1.length c1_g0, .slice a2_g0 rz0_2.length c2_g0] 27)))
  have Bg0_2 := Lib.hid (Box.alloc u2 #[.int .i64 r0L, .int .i64 r0P, .slice a1_g0 rz0_1.length c1_g0, .slice a2_g0 rz0_2.length c2_g0] 27)
  obtain ⟨fg00, fg01, fg02, fg03⟩ := Bg0_2.out.four
  obtain ⟨fw00, fw01, fw02, fw03⟩ := Bw0_2.out.four
  go_wp2_with fail
  clear fg00 fg01 fg02 fg03 fw00 fw01 fw02 fw03
  refine (c_eqN r0L r0P _ _ _ _ rz0_1 _ _ _ _ rz0_2 _ RL0.out Og0_2.out.reads Ow0_2.out.reads).mono ?_; rintro e u3 ⟨rfl, x'⟩
  have B3 := Lib.hid (B2.out.trans x')
  have Bw0_3 := Lib.hid (Bw0_2.out.on x')
  have Bg0_3 := Lib.hid (Bg0_2.out.on x')
  have Ow0_3 := Lib.hid (Ow0_2.out.on x')
  have Og0_3 := Lib.hid (Og0_2.out.on x')
  have SZ3 := Lib.hid (show u2.heap.size + 1 ≤ u3.heap.size from Nat.le_trans (by first | omega | (simp; done) | (simp; omega)) x'.size); clear x'
  obtain ⟨kk1, hkk⟩ : ∃ k : Nat, 1 + rz0_1.length + rz0_2.length = k := ⟨_, rfl⟩; have HKK1 := Lib.hid hkk; have hpos1 : (0 : Int) ≤ (kk1 : Int) := by omega
  clear hkk
  obtain ⟨fg00, fg01, fg02, fg03⟩ := Bg0_3.out.four
  go_wp2_with fail
  clear fg00 fg01 fg02 fg03
  refine (c_markN r0L r0P (u1.heap.size + 1) (u2.heap.size) _ _ _ _ _ _ 1 _ _ _ RL0.out (by decide) Og0_3.out (by have := SZ1.out; have := SZ2.out; have := SZ3.out; omega)).mono ?_; rintro e u4 ⟨he, o', t'⟩; rw [HKK1.out] at he; subst he
  have B4 := Lib.hid (Touch.ext B3.out t' (by have := SZ1.out; have := SZ2.out; have := SZ3.out; omega))
  have Bw0_4 := Lib.hid (Bw0_3.out.beside t' (by have := SZ1.out; have := SZ2.out; have := SZ3.out; omega))
  have Bg0_4 := Lib.hid (Bg0_3.out.beside t' (by have := SZ1.out; have := SZ2.out; have := SZ3.out; omega))
  have Ow0_4 := Lib.hid (Ow0_3.out.beside t' (by have := SZ1.out; have := SZ2.out; have := SZ3.out; omega))
  have Og0_4 := Lib.hid o'
  have SZ4 := Lib.hid (show u3.heap.size ≤ u4.heap.size from Nat.le_trans (by first | omega | (simp; done) | (simp; omega)) t'.size); clear o' t'
  obtain ⟨fg00, fg01, fg02, fg03⟩ := Bg0_4.out.four
  go_wp2_with fail
  clear fg00 fg01 fg02 fg03
  refine (c_heldN r0L r0P _ _ _ _ _ _ 1 _ RL0.out (by decide) Og0_4.out.reads).mono ?_; rintro e u5 ⟨he, x'⟩; rw [HKK1.out] at he; subst he
  have B5 := Lib.hid (B4.out.trans x')
  have Bw0_5 := Lib.hid (Bw0_4.out.on x')
  have Bg0_5 := Lib.hid (Bg0_4.out.on x')
  have Ow0_5 := Lib.hid (Ow0_4.out.on x')
  have Og0_5 := Lib.hid (Og0_4.out.on x')
  have SZ5 := Lib.hid (show u4.heap.size ≤ u5.heap.size from Nat.le_trans (by first | omega | (simp; done) | (simp; omega)) x'.size); clear x'
  go_wp2_with fail
  refine (c_impl_NewWindow a0 a1 _ HV.out ).mono ?_; rintro e u6 ⟨a1_h0, c1_h0, a2_h0, c2_h0, rfl, o0', x'⟩
  have B6 := Lib.hid (B5.out.trans x')
  have Bw0_6 := Lib.hid (Bw0_5.out.on x')
  have Bg0_6 := Lib.hid (Bg0_5.out.on x')
  have Ow0_6 := Lib.hid (Ow0_5.out.on x')
  have Og0_6 := Lib.hid (Og0_5.out.on x')
  have Oh0_6 := Lib.hid (o0'.wide (lo' := u5.heap.size) (hi' := u6.heap.size) (by first | omega | (simp; done) | (simp; omega)) (Nat.le_refl _)); clear o0'
  have SZ6 := Lib.hid (show u5.heap.size ≤ u6.heap.size from Nat.le_trans (by first | omega | (simp; done) | (simp; omega)) x'.size); clear x'
  replace B6 := Lib.hid (B6.out.stepA (.cells #[.int .i64 r0L, .int .i64 r0P, .slice a1_h0 rz0_1.length c1_h0, .slice a2_h0 rz0_2.length c2_h0] 27))
  replace Bw0_6 := Lib.hid (Bw0_6.out.past (.cells #[.int .i64 r0L, .int .i64 r0P, .slice a1_h0 rz0_1.length c1_h0, .slice a2_h0 rz0_2.length c2_h0] 27))
  replace Bg0_6 := Lib.hid (Bg0_6.out.past (.cells #[.int .i64 r0L, .int .i64 r0P, .slice a1_h0 rz0_1.length c1_h0, .slice a2_h0 rz0_2.length c2_h0] 27))
  replace Ow0_6 := Lib.hid (Ow0_6.out.on (Ext.alloc u6 (.cells #[.int .i64 r0L, .int .i64 r0P, .slice a1_h0 rz0_1.length c1_h0, .slice a2_h0 rz0_2.length c2_h0] 27)))
  replace Og0_6 := Lib.hid (Og0_6.out.on (Ext.alloc u6 (.cells #[.int .i64 r0L, .int .i64 r0P, .slice a1_h0 rz0_1.length c1_h0, .slice a2_h0 rz0_2.length c2_h0] 27)))
  replace Oh0_6 := Lib.hid (Oh0_6.out.on (Ext.alloc u6 (.cells #[.int .i64 r0L, .int .i64 r0P, .slice a1_h0 rz0_1.length c1_h0, .slice a2_h0 rz0_2.length c2_h0] 27)))
  have Bh0_6 := Lib.hid (Box.alloc u6 #[.int .i64 r0L, .int .i64 r0P, .slice a1_h0 rz0_1.length c1_h0, .slice a2_h0 rz0_2.length c2_h0] 27)
  obtain ⟨fh00, fh01, fh02, fh03⟩ := Bh0_6.out.four
  obtain ⟨fw00, fw01, fw02, fw03⟩ := Bw0_6.out.four
  go_wp2_with fail
  clear fh00 fh01 fh02 fh03 fw00 fw01 fw02 fw03
  refine (c_eqN r0L r0P _ _ _ _ rz0_1 _ _ _ _ rz0_2 _ RL0.out Oh0_6.out.reads Ow0_6.out.reads).mono ?_; rintro e u7 ⟨rfl, x'⟩
  have B7 := Lib.hid (B6.out.trans x')
  have Bw0_7 := Lib.hid (Bw0_6.out.on x')
  have Bg0_7 := Lib.hid (Bg0_6.out.on x')
  have Bh0_7 := Lib.hid (Bh0_6.out.on x')
  have Ow0_7 := Lib.hid (Ow0_6.out.on x')
  have Og0_7 := Lib.hid (Og0_6.out.on x')
  have Oh0_7 := Lib.hid (Oh0_6.out.on x')
  have SZ7 := Lib.hid (show u6.heap.size + 1 ≤ u7.heap.size from Nat.le_trans (by first | omega | (simp; done) | (simp; omega)) x'.size); clear x'
  obtain ⟨fg00, fg01, fg02, fg03⟩ := Bg0_7.out.four
  go_wp2_with fail
  clear fg00 fg01 fg02 fg03
  refine (c_heldN r0L r0P _ _ _ _ _ _ 1 _ RL0.out (by decide) Og0_7.out.reads).mono ?_; rintro e u8 ⟨he, x'⟩; rw [HKK1.out] at he; subst he
  have B8 := Lib.hid (B7.out.trans x')
  have Bw0_8 := Lib.hid (Bw0_7.out.on x')
  have Bg0_8 := Lib.hid (Bg0_7.out.on x')
  have Bh0_8 := Lib.hid (Bh0_7.out.on x')
  have Ow0_8 := Lib.hid (Ow0_7.out.on x')
  have Og0_8 := Lib.hid (Og0_7.out.on x')
  have Oh0_8 := Lib.hid (Oh0_7.out.on x')
  have SZ8 := Lib.hid (show u7.heap.size ≤ u8.heap.size from Nat.le_trans (by first | omega | (simp; done) | (simp; omega)) x'.size); clear x'
  go_wp2
  go_ret
  exact ⟨rfl, B8.out⟩
end Go.Proofs.Ytmlnnnagbkknhaa
