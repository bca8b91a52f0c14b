/- The walk of the law FnExactWindowText. -/
import Derived.Test.YtgejfeedcphfkaaDoorWnt
import Derived.Deep.RegionHeld3
import Derived.Deep.DeepCutAuto
import Derived.Deep.LoopGhost
import Derived.WalkLawsBesides
namespace Go.Proofs.YtgejfeedcphfkaaDoor
open Go.ChangeShapes Go.WideShapes Go.ChangeAt Go.RowKit
set_option linter.unusedVariables false
set_option maxHeartbeats 8000000 in
theorem walk_FnExactWindowText (L0 : Int) (P0 : Int) (p0_1 : Option Addr) (len0_1 cap0_1 : Nat) (z0_1 : List Int) (p0_2 : Option Addr) (len0_2 cap0_2 : Nat) (z0_2 : List Int) (w : World) (w0_0 : (Lit.int .i64 L0).wf = true) (w0_1 : (Lit.int .i64 P0).wf = true) (w0_2 : IsRow .i64 w p0_1 len0_1 cap0_1 z0_1) (w0_3 : IsRow .i64 w p0_2 len0_2 cap0_2 z0_2) (hT : TabP w) :
    Calls Tryd.prog 5 #[.agg #[.int .i64 L0, .int .i64 P0, .slice p0_1 len0_1 cap0_1, .slice p0_2 len0_2 cap0_2]] w fun e w' => e = .returned (.bool true) ∧ Below w.heap.size w w' := by
  have HT := Lib.hid hT
  clear hT
  clear w0_0
  clear w0_1
  obtain ⟨h0_1, m0_1⟩ := w0_2.rd
  obtain ⟨zs0_1, hz0_1⟩ : ∃ zs, z0_1.take len0_1 = zs := ⟨_, rfl⟩
  rw [hz0_1] at h0_1
  have hl0_1 := h0_1.int.1
  subst hl0_1
  have H0_1 := Lib.hid h0_1; have M0_1 := Lib.hid m0_1
  clear hz0_1 h0_1 m0_1 w0_2
  obtain ⟨h0_2, m0_2⟩ := w0_3.rd
  obtain ⟨zs0_2, hz0_2⟩ : ∃ zs, z0_2.take len0_2 = zs := ⟨_, rfl⟩
  rw [hz0_2] at h0_2
  have hl0_2 := h0_2.int.1
  subst hl0_2
  have H0_2 := Lib.hid h0_2; have M0_2 := Lib.hid m0_2
  clear hz0_2 h0_2 m0_2 w0_3
  have H0 := Lib.hid (show Reads2 w p0_1 zs0_1.length (ints zs0_1) p0_2 zs0_2.length (ints zs0_2) from ⟨H0_1.out, H0_2.out⟩)
  have BA0_0 := Lib.hid (Box.alloc_at w #[.int .i64 L0, .int .i64 P0, .slice p0_1 zs0_1.length cap0_1, .slice p0_2 zs0_2.length cap0_2] 42 (b := w.heap.size) (by first | omega | (simp; done) | (simp; omega)))
  have B0 := Lib.hid (show Ext w (w.alloc (.cells #[.int .i64 L0, .int .i64 P0, .slice p0_1 zs0_1.length cap0_1, .slice p0_2 zs0_2.length cap0_2] 42)) from by (repeat (first | assumption | exact Ext.refl _ | (with_reducible refine Ext.stepS ?_ (by first | exact Nat.le_refl _ | (simp; done) | (simp; omega)) _) | (with_reducible refine Ext.stepN ?_ _) | (with_reducible refine Ext.stepD ?_) | (with_reducible refine Ext.stepA ?_ _))))
  by_cases g0 : 1048576 < zs0_1.length + zs0_2.length
  · go_enter Tryd.func5, Tryd.ntmps5
    go_wp2_with fail
    refine (c_szN_no L0 P0 _ _ _ _ _ _ 1048576 _ g0 (by decide) M0_1.out M0_2.out).mono ?_; rintro e u1 ⟨rfl, x'⟩
    have X := B0.out.trans x'
    clear x'
    go_wp2
    go_ret
    exact ⟨rfl, X⟩
  have G0 := Lib.hid (show zs0_1.length + zs0_2.length ≤ 1048576 by omega)
  clear g0
  obtain ⟨rv0, rb1, hR⟩ : ∃ rv0 rb1, wntR L0 P0 zs0_1 zs0_2 = ((rv0 : ByteArray), (rb1 : Bool)) := ⟨_, _, rfl⟩
  have HV := Lib.hid hR
  clear hR
  go_enter Tryd.func5, Tryd.ntmps5
  have hnn0 : (0 : Int) ≤ ((1048576 - (zs0_1.length + zs0_2.length) : Nat) : Int) := by omega
  obtain ⟨left0, hleft0⟩ : ∃ l : Nat, 1048576 - (zs0_1.length + zs0_2.length) = l := ⟨_, rfl⟩; rw [hleft0] at hnn0; have HLF0 := Lib.hid hleft0; clear hleft0
  go_wp2_with fail
  refine (c_szN_ok L0 P0 _ _ _ _ _ _ 1048576 _ G0.out (by decide)).mono ?_; rw [HLF0.out]; rintro e u1 ⟨rfl, x'⟩
  have B1 := Lib.hid (B0.out.trans x')
  have BA0_1 := Lib.hid (BA0_0.out.on x')
  have SZ1 := Lib.hid (show w.heap.size + 1 ≤ u1.heap.size from Nat.le_trans (by first | omega | (simp; done) | (simp; omega)) x'.size); clear x'
  obtain ⟨fA00, fA01, fA02, fA03⟩ := BA0_1.out.four
  go_wp2_with fail
  clear fA00 fA01 fA02 fA03
  refine (c_toN L0 P0 _ _ zs0_1 _ _ zs0_2 _ G0.out (H0.out.on B1.out)).mono ?_; rintro e u2 ⟨a1_s0, c1_s0, a2_s0, c2_s0, rfl, o', x'⟩
  have B2 := Lib.hid (B1.out.trans x')
  have BA0_2 := Lib.hid (BA0_1.out.on x')
  have Os0_2 := Lib.hid (o'.wide (lo' := u1.heap.size) (hi' := u2.heap.size) (by first | omega | (simp; done) | (simp; omega)) (Nat.le_refl _)); clear o'
  have SZ2 := Lib.hid (show u1.heap.size ≤ u2.heap.size from Nat.le_trans (by first | omega | (simp; done) | (simp; omega)) x'.size); clear x'
  go_wp2_with fail
  refine (c_spec_WindowText L0 P0 _ _ zs0_1 _ _ zs0_2 _ HV.out G0.out Os0_2.out.reads).mono ?_; rintro e u3 ⟨rfl, x'⟩
  have B3 := Lib.hid (B2.out.trans x')
  have BA0_3 := Lib.hid (BA0_2.out.on x')
  have Os0_3 := Lib.hid (Os0_2.out.on x')
  have SZ3 := Lib.hid (show u2.heap.size ≤ u3.heap.size from Nat.le_trans (by first | omega | (simp; done) | (simp; omega)) x'.size); clear x'
  obtain ⟨fA00, fA01, fA02, fA03⟩ := BA0_3.out.four
  go_wp2_with fail
  clear fA00 fA01 fA02 fA03
  refine (c_toN L0 P0 _ _ zs0_1 _ _ zs0_2 _ G0.out (H0.out.on B3.out)).mono ?_; rintro e u4 ⟨a1_x0, c1_x0, a2_x0, c2_x0, rfl, o', x'⟩
  have B4 := Lib.hid (B3.out.trans x')
  have BA0_4 := Lib.hid (BA0_3.out.on x')
  have Os0_4 := Lib.hid (Os0_3.out.on x')
  have Ox0_4 := Lib.hid (o'.wide (lo' := u3.heap.size) (hi' := u4.heap.size) (by first | omega | (simp; done) | (simp; omega)) (Nat.le_refl _)); clear o'
  have SZ4 := Lib.hid (show u3.heap.size ≤ u4.heap.size from Nat.le_trans (by first | omega | (simp; done) | (simp; omega)) x'.size); clear x'
  replace B4 := Lib.hid (B4.out.stepA (.cells #[.int .i64 L0, .int .i64 P0, .slice a1_x0 zs0_1.length c1_x0, .slice a2_x0 zs0_2.length c2_x0] 45))
  replace BA0_4 := Lib.hid (BA0_4.out.past (.cells #[.int .i64 L0, .int .i64 P0, .slice a1_x0 zs0_1.length c1_x0, .slice a2_x0 zs0_2.length c2_x0] 45))
  replace Os0_4 := Lib.hid (Os0_4.out.on (Ext.alloc u4 (.cells #[.int .i64 L0, .int .i64 P0, .slice a1_x0 zs0_1.length c1_x0, .slice a2_x0 zs0_2.length c2_x0] 45)))
  replace Ox0_4 := Lib.hid (Ox0_4.out.on (Ext.alloc u4 (.cells #[.int .i64 L0, .int .i64 P0, .slice a1_x0 zs0_1.length c1_x0, .slice a2_x0 zs0_2.length c2_x0] 45)))
  have Bx0_4 := Lib.hid (Box.alloc u4 #[.int .i64 L0, .int .i64 P0, .slice a1_x0 zs0_1.length c1_x0, .slice a2_x0 zs0_2.length c2_x0] 45)
  obtain ⟨fx00, fx01, fx02, fx03⟩ := Bx0_4.out.four
  go_wp2_with fail
  clear fx00 fx01 fx02 fx03
  refine (c_impl_WindowText L0 P0 _ _ zs0_1 _ _ zs0_2 _ HV.out G0.out Ox0_4.out.reads (HT.out.on B4.out)).mono ?_; rintro e u5 ⟨rfl, x'⟩
  have B5 := Lib.hid (B4.out.trans x')
  have BA0_5 := Lib.hid (BA0_4.out.on x')
  have Bx0_5 := Lib.hid (Bx0_4.out.on x')
  have Os0_5 := Lib.hid (Os0_4.out.on x')
  have Ox0_5 := Lib.hid (Ox0_4.out.on x')
  have SZ5 := Lib.hid (show u4.heap.size + 1 ≤ u5.heap.size from Nat.le_trans (by first | omega | (simp; done) | (simp; omega)) x'.size); clear x'
  obtain ⟨fA00, fA01, fA02, fA03⟩ := BA0_5.out.four
  obtain ⟨fx00, fx01, fx02, fx03⟩ := Bx0_5.out.four
  go_wp2_with fail
  go_region_held3 (fun w' => w'.cell? ⟨w.heap.size, 0, none⟩ = some (.int .i64 L0) ∧ w'.cell? ⟨w.heap.size, 1, none⟩ = some (.int .i64 P0) ∧ w'.cell? ⟨w.heap.size, 2, none⟩ = some (.slice p0_1 zs0_1.length cap0_1) ∧ w'.cell? ⟨w.heap.size, 3, none⟩ = some (.slice p0_2 zs0_2.length cap0_2) ∧ w'.cell? ⟨u4.heap.size, 0, none⟩ = some (.int .i64 L0) ∧ w'.cell? ⟨u4.heap.size, 1, none⟩ = some (.int .i64 P0) ∧ w'.cell? ⟨u4.heap.size, 2, none⟩ = some (.slice a1_x0 zs0_1.length c1_x0) ∧ w'.cell? ⟨u4.heap.size, 3, none⟩ = some (.slice a2_x0 zs0_2.length c2_x0)) (first | exact ⟨KA.1, KA.2.1, KA.2.2.1, KA.2.2.2, KX.1, KX.2.1, KX.2.2.1, KX.2.2.2⟩ | go_keep) (first | (go_at_call 22; refine (c_toN L0 P0 _ _ zs0_1 _ _ zs0_2 _ G0.out (H0.out.on B5.out.stepD)).mono ?_; rintro e u6 ⟨a1_t0, c1_t0, a2_t0, c2_t0, rfl, o', x'⟩; have B6 := Lib.hid (B5.out.stepD.trans x'); have BA0_6 := Lib.hid ((BA0_5.out.on (Ext.drew _)).on x'); have Bx0_6 := Lib.hid ((Bx0_5.out.on (Ext.drew _)).on x'); have Os0_6 := Lib.hid ((Os0_5.out.on (Ext.drew _)).on x'); have Ox0_6 := Lib.hid ((Ox0_5.out.on (Ext.drew _)).on x'); have Ot0_6 := Lib.hid (o'.wide (lo' := u5.heap.size) (hi' := u6.heap.size) (by first | omega | (simp; done) | (simp; omega)) (Nat.le_refl _)); have SZ6 := Lib.hid (show u5.heap.size ≤ u6.heap.size from Nat.le_trans (by first | omega | (simp; done) | (simp; omega)) x'.size); have KA := BA0_6.out.four; have KX := Bx0_6.out.four; clear o' x') | (go_at_call 24; refine (c_eqN L0 P0 _ _ _ _ zs0_1 _ _ _ _ zs0_2 _ G0.out Ox0_6.out.reads Ot0_6.out.reads).mono ?_; rintro e u7 ⟨rfl, x'⟩; have B7 := Lib.hid (B6.out.trans x'); have BA0_7 := Lib.hid (BA0_6.out.on x'); have Bx0_7 := Lib.hid (Bx0_6.out.on x'); have Os0_7 := Lib.hid (Os0_6.out.on x'); have Ox0_7 := Lib.hid (Ox0_6.out.on x'); have Ot0_7 := Lib.hid (Ot0_6.out.on x'); have SZ7 := Lib.hid (show u6.heap.size ≤ u7.heap.size from x'.size); clear KA KX; have KA := BA0_7.out.four; have KX := Bx0_7.out.four; clear x'))
  clear KA KX fA00 fA01 fA02 fA03 fx00 fx01 fx02 fx03
  go_wp2
  go_ret
  exact ⟨rfl, B7.out⟩
end Go.Proofs.YtgejfeedcphfkaaDoor
