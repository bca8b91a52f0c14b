/- The walk of the law FnExactOutFinger. -/
import Derived.Test.YtfolflkbpdbkcabLki
import Derived.Test.YtfolflkbpdbkcabFil
import Derived.Deep.RegionHeld3
import Derived.Deep.DeepCutAuto
import Derived.Deep.LoopGhost
import Derived.WalkLawsBesides
namespace Go.Proofs.Ytfolflkbpdbkcab
open Go.ChangeShapes Go.WideShapes Go.ChangeAt Go.RowKit
set_option linter.unusedVariables false
set_option maxHeartbeats 8000000 in
theorem walk_FnExactOutFinger (S0 : Int) (p0_1 : Option Addr) (len0_1 cap0_1 : Nat) (z0_1 : List Int) (a1 : Int) (w : World) (w0_0 : (Lit.int .i64 S0).wf = true) (w0_1 : IsRow .i64 w p0_1 len0_1 cap0_1 z0_1) (w1 : (Lit.int .i64 a1).wf = true) :
    Calls Try.prog 10 #[.agg #[.int .i64 S0, .slice p0_1 len0_1 cap0_1], .int .i64 a1] w fun e w' => e = .returned (.bool true) ∧ Below w.heap.size w w' := by
  clear w0_0
  obtain ⟨h0_1, m0_1⟩ := w0_1.rd
  obtain ⟨zs0, hz0_1⟩ : ∃ zs, z0_1.take len0_1 = zs := ⟨_, rfl⟩
  rw [hz0_1] at h0_1
  have hl0_1 := h0_1.int.1
  subst hl0_1
  have H0_1 := Lib.hid h0_1; have M0_1 := Lib.hid m0_1
  clear hz0_1 h0_1 m0_1 w0_1
  clear w1
  have BA0_0 := Lib.hid (Box.alloc_at w #[.int .i64 S0, .slice p0_1 zs0.length cap0_1] 38 (b := w.heap.size) (by first | omega | (simp; done) | (simp; omega)))
  have B0 := Lib.hid (show Ext w (w.alloc (.cells #[.int .i64 S0, .slice p0_1 zs0.length cap0_1] 38)) from by (repeat (first | assumption | exact Ext.refl _ | (with_reducible refine Ext.stepS ?_ (by first | exact Nat.le_refl _ | (simp; done) | (simp; omega)) _) | (with_reducible refine Ext.stepN ?_ _) | (with_reducible refine Ext.stepD ?_) | (with_reducible refine Ext.stepA ?_ _))))
  by_cases g0 : 1048576 < zs0.length
  · go_enter Try.func10, Try.ntmps10
    go_wp2_with fail
    refine (c_szF_no S0 _ _ _ 1048576 _ g0 (by decide) M0_1.out).mono ?_; rintro e u1 ⟨rfl, x'⟩
    have X := B0.out.trans x'
    clear x'
    go_wp2
    go_ret
    exact ⟨rfl, X⟩
  have G0 := Lib.hid (show zs0.length ≤ 1048576 by omega)
  clear g0
  obtain ⟨rS, rz, rb, hR⟩ : ∃ S z b, outFinR S0 zs0 a1 = ((⟨S, z⟩ : FV), b) := ⟨_, _, _, rfl⟩
  have RL := Lib.hid (show rz.length ≤ 1048576 from outFinR_le hR)
  have HV := Lib.hid hR
  clear hR
  go_enter Try.func10, Try.ntmps10
  go_wp2_with fail
  refine (c_szF_ok S0 _ _ _ 1048576 _ G0.out (by decide)).mono ?_; rintro e u1 ⟨rfl, x'⟩
  have hnn0 : (0 : Int) ≤ ((1048576 - zs0.length : Nat) : Int) := by omega
  have B1 := Lib.hid (B0.out.trans x')
  have BA0_1 := Lib.hid (BA0_0.out.on x')
  have SZ1 := Lib.hid (show w.heap.size + 1 ≤ u1.heap.size from Nat.le_trans (by first | omega | (simp; done) | (simp; omega)) x'.size); clear x'
  obtain ⟨fA00, fA01⟩ := BA0_1.out.two
  go_wp2_with fail
  clear fA00 fA01
  refine (c_toF S0 _ _ _ zs0 _ G0.out (H0_1.out.on B1.out)).mono ?_; rintro e u2 ⟨a_s0, c_s0, rfl, o', x'⟩
  have B2 := Lib.hid (B1.out.trans x')
  have BA0_2 := Lib.hid (BA0_1.out.on x')
  have Os0_2 := Lib.hid (o'.wide (lo' := u1.heap.size) (hi' := u2.heap.size) (by first | omega | (simp; done) | (simp; omega)) (Nat.le_refl _)); clear o'
  have SZ2 := Lib.hid (show u1.heap.size ≤ u2.heap.size from Nat.le_trans (by first | omega | (simp; done) | (simp; omega)) x'.size); clear x'
  go_wp2_with fail
  refine (c_spec_OutFinger S0 _ _ _ zs0 a1 _ HV.out (by have := G0.out; unfold maxLen; omega) Os0_2.out.reads).mono ?_; rintro e u3 ⟨a_w, c_w, rfl, o', x'⟩
  have B3 := Lib.hid (B2.out.trans x')
  have BA0_3 := Lib.hid (BA0_2.out.on x')
  have Os0_3 := Lib.hid (Os0_2.out.on x')
  have Ow_3 := Lib.hid (o'.wide (lo' := u2.heap.size) (hi' := u3.heap.size) (by first | omega | (simp; done) | (simp; omega)) (Nat.le_refl _)); clear o'
  have SZ3 := Lib.hid (show u2.heap.size ≤ u3.heap.size from Nat.le_trans (by first | omega | (simp; done) | (simp; omega)) x'.size); clear x'
  replace B3 := Lib.hid (B3.out.stepA (.cells #[.int .i64 rS, .slice a_w rz.length c_w] 41))
  replace BA0_3 := Lib.hid (BA0_3.out.past (.cells #[.int .i64 rS, .slice a_w rz.length c_w] 41))
  replace Os0_3 := Lib.hid (Os0_3.out.on (Ext.alloc u3 (.cells #[.int .i64 rS, .slice a_w rz.length c_w] 41)))
  replace Ow_3 := Lib.hid (Ow_3.out.on (Ext.alloc u3 (.cells #[.int .i64 rS, .slice a_w rz.length c_w] 41)))
  have Bw_3 := Lib.hid (Box.alloc u3 #[.int .i64 rS, .slice a_w rz.length c_w] 41)
  obtain ⟨fA00, fA01⟩ := BA0_3.out.two
  go_wp2_with fail
  clear fA00 fA01
  refine (c_toF S0 _ _ _ zs0 _ G0.out (H0_1.out.on B3.out)).mono ?_; rintro e u4 ⟨a_x0, c_x0, rfl, o', x'⟩
  have B4 := Lib.hid (B3.out.trans x')
  have BA0_4 := Lib.hid (BA0_3.out.on x')
  have Bw_4 := Lib.hid (Bw_3.out.on x')
  have Os0_4 := Lib.hid (Os0_3.out.on x')
  have Ow_4 := Lib.hid (Ow_3.out.on x')
  have Ox0_4 := Lib.hid (o'.wide (lo' := u3.heap.size + 1) (hi' := u4.heap.size) (by first | omega | (simp; done) | (simp; omega)) (Nat.le_refl _)); clear o'
  have SZ4 := Lib.hid (show u3.heap.size + 1 ≤ u4.heap.size from Nat.le_trans (by first | omega | (simp; done) | (simp; omega)) x'.size); clear x'
  replace B4 := Lib.hid (B4.out.stepA (.cells #[.int .i64 S0, .slice a_x0 zs0.length c_x0] 41))
  replace BA0_4 := Lib.hid (BA0_4.out.past (.cells #[.int .i64 S0, .slice a_x0 zs0.length c_x0] 41))
  replace Bw_4 := Lib.hid (Bw_4.out.past (.cells #[.int .i64 S0, .slice a_x0 zs0.length c_x0] 41))
  replace Os0_4 := Lib.hid (Os0_4.out.on (Ext.alloc u4 (.cells #[.int .i64 S0, .slice a_x0 zs0.length c_x0] 41)))
  replace Ow_4 := Lib.hid (Ow_4.out.on (Ext.alloc u4 (.cells #[.int .i64 S0, .slice a_x0 zs0.length c_x0] 41)))
  replace Ox0_4 := Lib.hid (Ox0_4.out.on (Ext.alloc u4 (.cells #[.int .i64 S0, .slice a_x0 zs0.length c_x0] 41)))
  have Bx0_4 := Lib.hid (Box.alloc u4 #[.int .i64 S0, .slice a_x0 zs0.length c_x0] 41)
  obtain ⟨fx00, fx01⟩ := Bx0_4.out.two
  go_wp2_with fail
  clear fx00 fx01
  refine (c_impl_OutFinger S0 _ _ _ zs0 a1 _ HV.out (by have := G0.out; unfold maxLen; omega) Ox0_4.out.reads).mono ?_; rintro e u5 ⟨a_g, c_g, rfl, o', x'⟩
  have B5 := Lib.hid (B4.out.trans x')
  have BA0_5 := Lib.hid (BA0_4.out.on x')
  have Bw_5 := Lib.hid (Bw_4.out.on x')
  have Bx0_5 := Lib.hid (Bx0_4.out.on x')
  have Os0_5 := Lib.hid (Os0_4.out.on x')
  have Ow_5 := Lib.hid (Ow_4.out.on x')
  have Ox0_5 := Lib.hid (Ox0_4.out.on x')
  have Og_5 := Lib.hid (o'.wide (lo' := u4.heap.size + 1) (hi' := u5.heap.size) (by first | omega | (simp; done) | (simp; omega)) (Nat.le_refl _)); clear o'
  have SZ5 := Lib.hid (show u4.heap.size + 1 ≤ u5.heap.size from Nat.le_trans (by first | omega | (simp; done) | (simp; omega)) x'.size); clear x'
  replace B5 := Lib.hid (B5.out.stepA (.cells #[.int .i64 rS, .slice a_g rz.length c_g] 41))
  replace BA0_5 := Lib.hid (BA0_5.out.past (.cells #[.int .i64 rS, .slice a_g rz.length c_g] 41))
  replace Bw_5 := Lib.hid (Bw_5.out.past (.cells #[.int .i64 rS, .slice a_g rz.length c_g] 41))
  replace Bx0_5 := Lib.hid (Bx0_5.out.past (.cells #[.int .i64 rS, .slice a_g rz.length c_g] 41))
  replace Os0_5 := Lib.hid (Os0_5.out.on (Ext.alloc u5 (.cells #[.int .i64 rS, .slice a_g rz.length c_g] 41)))
  replace Ow_5 := Lib.hid (Ow_5.out.on (Ext.alloc u5 (.cells #[.int .i64 rS, .slice a_g rz.length c_g] 41)))
  replace Ox0_5 := Lib.hid (Ox0_5.out.on (Ext.alloc u5 (.cells #[.int .i64 rS, .slice a_g rz.length c_g] 41)))
  replace Og_5 := Lib.hid (Og_5.out.on (Ext.alloc u5 (.cells #[.int .i64 rS, .slice a_g rz.length c_g] 41)))
  have Bg_5 := Lib.hid (Box.alloc u5 #[.int .i64 rS, .slice a_g rz.length c_g] 41)
  obtain ⟨fg0, fg1⟩ := Bg_5.out.two
  obtain ⟨fw0, fw1⟩ := Bw_5.out.two
  go_wp2_with fail
  clear fg0 fg1 fw0 fw1
  refine (c_eqF rS _ _ _ _ _ rz _ RL.out Og_5.out.reads Ow_5.out.reads).mono ?_; rintro e u6 ⟨rfl, x'⟩
  have B6 := Lib.hid (B5.out.trans x')
  have BA0_6 := Lib.hid (BA0_5.out.on x')
  have Bw_6 := Lib.hid (Bw_5.out.on x')
  have Bx0_6 := Lib.hid (Bx0_5.out.on x')
  have Bg_6 := Lib.hid (Bg_5.out.on x')
  have Os0_6 := Lib.hid (Os0_5.out.on x')
  have Ow_6 := Lib.hid (Ow_5.out.on x')
  have Ox0_6 := Lib.hid (Ox0_5.out.on x')
  have Og_6 := Lib.hid (Og_5.out.on x')
  have SZ6 := Lib.hid (show u5.heap.size + 1 ≤ u6.heap.size from Nat.le_trans (by first | omega | (simp; done) | (simp; omega)) x'.size); clear x'
  obtain ⟨fA00, fA01⟩ := BA0_6.out.two
  obtain ⟨fx00, fx01⟩ := Bx0_6.out.two
  go_wp2_with fail
  go_region_held3 (fun w' => w'.cell? ⟨w.heap.size, 0, none⟩ = some (.int .i64 S0) ∧ w'.cell? ⟨w.heap.size, 1, none⟩ = some (.slice p0_1 zs0.length cap0_1) ∧ w'.cell? ⟨u4.heap.size, 0, none⟩ = some (.int .i64 S0) ∧ w'.cell? ⟨u4.heap.size, 1, none⟩ = some (.slice a_x0 zs0.length c_x0)) (first | exact ⟨KA.1, KA.2, KX.1, KX.2⟩ | go_keep) (first | (go_at_call 30; refine (c_toF S0 _ _ _ zs0 _ G0.out (H0_1.out.on B6.out.stepD)).mono ?_; rintro e u7 ⟨a_t0, c_t0, rfl, o', x'⟩; have B7 := Lib.hid (B6.out.stepD.trans x'); have BA0_7 := Lib.hid ((BA0_6.out.on (Ext.drew _)).on x'); have Bw_7 := Lib.hid ((Bw_6.out.on (Ext.drew _)).on x'); have Bx0_7 := Lib.hid ((Bx0_6.out.on (Ext.drew _)).on x'); have Bg_7 := Lib.hid ((Bg_6.out.on (Ext.drew _)).on x'); have Os0_7 := Lib.hid ((Os0_6.out.on (Ext.drew _)).on x'); have Ow_7 := Lib.hid ((Ow_6.out.on (Ext.drew _)).on x'); have Ox0_7 := Lib.hid ((Ox0_6.out.on (Ext.drew _)).on x'); have Og_7 := Lib.hid ((Og_6.out.on (Ext.drew _)).on x'); have Ot0_7 := Lib.hid (o'.wide (lo' := u6.heap.size) (hi' := u7.heap.size) (by first | omega | (simp; done) | (simp; omega)) (Nat.le_refl _)); have SZ7 := Lib.hid (show u6.heap.size ≤ u7.heap.size from Nat.le_trans (by first | omega | (simp; done) | (simp; omega)) x'.size); have KA := BA0_7.out.two; have KX := Bx0_7.out.two; clear o' x') | (go_at_call 32; refine (c_eqF S0 _ _ _ _ _ zs0 _ G0.out Ox0_7.out.reads Ot0_7.out.reads).mono ?_; rintro e u8 ⟨rfl, x'⟩; have B8 := Lib.hid (B7.out.trans x'); have BA0_8 := Lib.hid (BA0_7.out.on x'); have Bw_8 := Lib.hid (Bw_7.out.on x'); have Bx0_8 := Lib.hid (Bx0_7.out.on x'); have Bg_8 := Lib.hid (Bg_7.out.on x'); have Os0_8 := Lib.hid (Os0_7.out.on x'); have Ow_8 := Lib.hid (Ow_7.out.on x'); have Ox0_8 := Lib.hid (Ox0_7.out.on x'); have Og_8 := Lib.hid (Og_7.out.on x'); have Ot0_8 := Lib.hid (Ot0_7.out.on x'); have SZ8 := Lib.hid (show u7.heap.size ≤ u8.heap.size from x'.size); clear KA KX; have KA := BA0_8.out.two; have KX := Bx0_8.out.two; clear x'))
  clear KA KX fA00 fA01 fx00 fx01
  obtain ⟨fx00, fx01⟩ := Bx0_8.out.two
  go_wp2_with fail
  clear fx00 fx01
  refine (c_markF S0 (u3.heap.size + 1) (u4.heap.size) _ _ _ 1 _ _ G0.out (by decide) Ox0_8.out (by have := SZ1.out; have := SZ2.out; have := SZ3.out; have := SZ4.out; have := SZ5.out; have := SZ6.out; have := SZ7.out; have := SZ8.out; omega)).mono ?_; rintro e u9 ⟨rfl, o', t'⟩
  have B9 := Lib.hid (Touch.ext B8.out t' (by have := SZ1.out; have := SZ2.out; have := SZ3.out; have := SZ4.out; have := SZ5.out; have := SZ6.out; have := SZ7.out; have := SZ8.out; omega))
  have BA0_9 := Lib.hid (BA0_8.out.beside t' (by have := SZ1.out; have := SZ2.out; have := SZ3.out; have := SZ4.out; have := SZ5.out; have := SZ6.out; have := SZ7.out; have := SZ8.out; omega))
  have Bw_9 := Lib.hid (Bw_8.out.beside t' (by have := SZ1.out; have := SZ2.out; have := SZ3.out; have := SZ4.out; have := SZ5.out; have := SZ6.out; have := SZ7.out; have := SZ8.out; omega))
  have Bx0_9 := Lib.hid (Bx0_8.out.beside t' (by have := SZ1.out; have := SZ2.out; have := SZ3.out; have := SZ4.out; have := SZ5.out; have := SZ6.out; have := SZ7.out; have := SZ8.out; omega))
  have Bg_9 := Lib.hid (Bg_8.out.beside t' (by have := SZ1.out; have := SZ2.out; have := SZ3.out; have := SZ4.out; have := SZ5.out; have := SZ6.out; have := SZ7.out; have := SZ8.out; omega))
  have Os0_9 := Lib.hid (Os0_8.out.beside t' (by have := SZ1.out; have := SZ2.out; have := SZ3.out; have := SZ4.out; have := SZ5.out; have := SZ6.out; have := SZ7.out; have := SZ8.out; omega))
  have Ow_9 := Lib.hid (Ow_8.out.beside t' (by have := SZ1.out; have := SZ2.out; have := SZ3.out; have := SZ4.out; have := SZ5.out; have := SZ6.out; have := SZ7.out; have := SZ8.out; omega))
  have Og_9 := Lib.hid (Og_8.out.beside t' (by have := SZ1.out; have := SZ2.out; have := SZ3.out; have := SZ4.out; have := SZ5.out; have := SZ6.out; have := SZ7.out; have := SZ8.out; omega))
  have Ot0_9 := Lib.hid (Ot0_8.out.beside t' (by have := SZ1.out; have := SZ2.out; have := SZ3.out; have := SZ4.out; have := SZ5.out; have := SZ6.out; have := SZ7.out; have := SZ8.out; omega))
  have Ox0_9 := Lib.hid o'
  have SZ9 := Lib.hid (show u8.heap.size ≤ u9.heap.size from Nat.le_trans (by first | omega | (simp; done) | (simp; omega)) t'.size); clear o' t'
  obtain ⟨fg0, fg1⟩ := Bg_9.out.two
  obtain ⟨fw0, fw1⟩ := Bw_9.out.two
  go_wp2_with fail
  clear fg0 fg1 fw0 fw1
  refine (c_eqF rS _ _ _ _ _ rz _ RL.out Og_9.out.reads Ow_9.out.reads).mono ?_; rintro e u10 ⟨rfl, x'⟩
  have B10 := Lib.hid (B9.out.trans x')
  have BA0_10 := Lib.hid (BA0_9.out.on x')
  have Bw_10 := Lib.hid (Bw_9.out.on x')
  have Bx0_10 := Lib.hid (Bx0_9.out.on x')
  have Bg_10 := Lib.hid (Bg_9.out.on x')
  have Os0_10 := Lib.hid (Os0_9.out.on x')
  have Ow_10 := Lib.hid (Ow_9.out.on x')
  have Ox0_10 := Lib.hid (Ox0_9.out.on x')
  have Og_10 := Lib.hid (Og_9.out.on x')
  have Ot0_10 := Lib.hid (Ot0_9.out.on x')
  have SZ10 := Lib.hid (show u9.heap.size ≤ u10.heap.size from Nat.le_trans (by first | omega | (simp; done) | (simp; omega)) x'.size); clear x'
  obtain ⟨fg0, fg1⟩ := Bg_10.out.two
  go_wp2_with fail
  clear fg0 fg1
  refine (c_markF rS (u4.heap.size + 1) (u5.heap.size) _ _ _ 1 _ _ RL.out (by decide) Og_10.out (by have := SZ1.out; have := SZ2.out; have := SZ3.out; have := SZ4.out; have := SZ5.out; have := SZ6.out; have := SZ7.out; have := SZ8.out; have := SZ9.out; have := SZ10.out; omega)).mono ?_; rintro e u11 ⟨rfl, o', t'⟩
  have B11 := Lib.hid (Touch.ext B10.out t' (by have := SZ1.out; have := SZ2.out; have := SZ3.out; have := SZ4.out; have := SZ5.out; have := SZ6.out; have := SZ7.out; have := SZ8.out; have := SZ9.out; have := SZ10.out; omega))
  have BA0_11 := Lib.hid (BA0_10.out.beside t' (by have := SZ1.out; have := SZ2.out; have := SZ3.out; have := SZ4.out; have := SZ5.out; have := SZ6.out; have := SZ7.out; have := SZ8.out; have := SZ9.out; have := SZ10.out; omega))
  have Bw_11 := Lib.hid (Bw_10.out.beside t' (by have := SZ1.out; have := SZ2.out; have := SZ3.out; have := SZ4.out; have := SZ5.out; have := SZ6.out; have := SZ7.out; have := SZ8.out; have := SZ9.out; have := SZ10.out; omega))
  have Bx0_11 := Lib.hid (Bx0_10.out.beside t' (by have := SZ1.out; have := SZ2.out; have := SZ3.out; have := SZ4.out; have := SZ5.out; have := SZ6.out; have := SZ7.out; have := SZ8.out; have := SZ9.out; have := SZ10.out; omega))
  have Bg_11 := Lib.hid (Bg_10.out.beside t' (by have := SZ1.out; have := SZ2.out; have := SZ3.out; have := SZ4.out; have := SZ5.out; have := SZ6.out; have := SZ7.out; have := SZ8.out; have := SZ9.out; have := SZ10.out; omega))
  have Os0_11 := Lib.hid (Os0_10.out.beside t' (by have := SZ1.out; have := SZ2.out; have := SZ3.out; have := SZ4.out; have := SZ5.out; have := SZ6.out; have := SZ7.out; have := SZ8.out; have := SZ9.out; have := SZ10.out; omega))
  have Ow_11 := Lib.hid (Ow_10.out.beside t' (by have := SZ1.out; have := SZ2.out; have := SZ3.out; have := SZ4.out; have := SZ5.out; have := SZ6.out; have := SZ7.out; have := SZ8.out; have := SZ9.out; have := SZ10.out; omega))
  have Ox0_11 := Lib.hid (Ox0_10.out.beside t' (by have := SZ1.out; have := SZ2.out; have := SZ3.out; have := SZ4.out; have := SZ5.out; have := SZ6.out; have := SZ7.out; have := SZ8.out; have := SZ9.out; have := SZ10.out; omega))
  have Ot0_11 := Lib.hid (Ot0_10.out.beside t' (by have := SZ1.out; have := SZ2.out; have := SZ3.out; have := SZ4.out; have := SZ5.out; have := SZ6.out; have := SZ7.out; have := SZ8.out; have := SZ9.out; have := SZ10.out; omega))
  have Og_11 := Lib.hid o'
  have SZ11 := Lib.hid (show u10.heap.size ≤ u11.heap.size from Nat.le_trans (by first | omega | (simp; done) | (simp; omega)) t'.size); clear o' t'
  obtain ⟨fg0, fg1⟩ := Bg_11.out.two
  go_wp2_with fail
  clear fg0 fg1
  refine (c_heldF rS _ _ _ 1 _ RL.out (by decide) Og_11.out.reads).mono ?_; rintro e u12 ⟨rfl, x'⟩
  have B12 := Lib.hid (B11.out.trans x')
  have BA0_12 := Lib.hid (BA0_11.out.on x')
  have Bw_12 := Lib.hid (Bw_11.out.on x')
  have Bx0_12 := Lib.hid (Bx0_11.out.on x')
  have Bg_12 := Lib.hid (Bg_11.out.on x')
  have Os0_12 := Lib.hid (Os0_11.out.on x')
  have Ow_12 := Lib.hid (Ow_11.out.on x')
  have Ox0_12 := Lib.hid (Ox0_11.out.on x')
  have Og_12 := Lib.hid (Og_11.out.on x')
  have Ot0_12 := Lib.hid (Ot0_11.out.on x')
  have SZ12 := Lib.hid (show u11.heap.size ≤ u12.heap.size from Nat.le_trans (by first | omega | (simp; done) | (simp; omega)) x'.size); clear x'
  obtain ⟨fA00, fA01⟩ := BA0_12.out.two
  go_wp2_with fail
  clear fA00 fA01
  refine (c_toF S0 _ _ _ zs0 _ G0.out (H0_1.out.on B12.out)).mono ?_; rintro e u13 ⟨a_y0, c_y0, rfl, o', x'⟩
  have B13 := Lib.hid (B12.out.trans x')
  have BA0_13 := Lib.hid (BA0_12.out.on x')
  have Bw_13 := Lib.hid (Bw_12.out.on x')
  have Bx0_13 := Lib.hid (Bx0_12.out.on x')
  have Bg_13 := Lib.hid (Bg_12.out.on x')
  have Os0_13 := Lib.hid (Os0_12.out.on x')
  have Ow_13 := Lib.hid (Ow_12.out.on x')
  have Ox0_13 := Lib.hid (Ox0_12.out.on x')
  have Og_13 := Lib.hid (Og_12.out.on x')
  have Ot0_13 := Lib.hid (Ot0_12.out.on x')
  have Oy0_13 := Lib.hid (o'.wide (lo' := u12.heap.size) (hi' := u13.heap.size) (by first | omega | (simp; done) | (simp; omega)) (Nat.le_refl _)); clear o'
  have SZ13 := Lib.hid (show u12.heap.size ≤ u13.heap.size from Nat.le_trans (by first | omega | (simp; done) | (simp; omega)) x'.size); clear x'
  go_wp2_with fail
  refine (c_impl_OutFinger S0 _ _ _ zs0 a1 _ HV.out (by have := G0.out; unfold maxLen; omega) Oy0_13.out.reads).mono ?_; rintro e u14 ⟨a_h, c_h, rfl, o', x'⟩
  have B14 := Lib.hid (B13.out.trans x')
  have BA0_14 := Lib.hid (BA0_13.out.on x')
  have Bw_14 := Lib.hid (Bw_13.out.on x')
  have Bx0_14 := Lib.hid (Bx0_13.out.on x')
  have Bg_14 := Lib.hid (Bg_13.out.on x')
  have Os0_14 := Lib.hid (Os0_13.out.on x')
  have Ow_14 := Lib.hid (Ow_13.out.on x')
  have Ox0_14 := Lib.hid (Ox0_13.out.on x')
  have Og_14 := Lib.hid (Og_13.out.on x')
  have Ot0_14 := Lib.hid (Ot0_13.out.on x')
  have Oy0_14 := Lib.hid (Oy0_13.out.on x')
  have Oh_14 := Lib.hid (o'.wide (lo' := u13.heap.size) (hi' := u14.heap.size) (by first | omega | (simp; done) | (simp; omega)) (Nat.le_refl _)); clear o'
  have SZ14 := Lib.hid (show u13.heap.size ≤ u14.heap.size from Nat.le_trans (by first | omega | (simp; done) | (simp; omega)) x'.size); clear x'
  replace B14 := Lib.hid (B14.out.stepA (.cells #[.int .i64 rS, .slice a_h rz.length c_h] 41))
  replace BA0_14 := Lib.hid (BA0_14.out.past (.cells #[.int .i64 rS, .slice a_h rz.length c_h] 41))
  replace Bw_14 := Lib.hid (Bw_14.out.past (.cells #[.int .i64 rS, .slice a_h rz.length c_h] 41))
  replace Bx0_14 := Lib.hid (Bx0_14.out.past (.cells #[.int .i64 rS, .slice a_h rz.length c_h] 41))
  replace Bg_14 := Lib.hid (Bg_14.out.past (.cells #[.int .i64 rS, .slice a_h rz.length c_h] 41))
  replace Os0_14 := Lib.hid (Os0_14.out.on (Ext.alloc u14 (.cells #[.int .i64 rS, .slice a_h rz.length c_h] 41)))
  replace Ow_14 := Lib.hid (Ow_14.out.on (Ext.alloc u14 (.cells #[.int .i64 rS, .slice a_h rz.length c_h] 41)))
  replace Ox0_14 := Lib.hid (Ox0_14.out.on (Ext.alloc u14 (.cells #[.int .i64 rS, .slice a_h rz.length c_h] 41)))
  replace Og_14 := Lib.hid (Og_14.out.on (Ext.alloc u14 (.cells #[.int .i64 rS, .slice a_h rz.length c_h] 41)))
  replace Ot0_14 := Lib.hid (Ot0_14.out.on (Ext.alloc u14 (.cells #[.int .i64 rS, .slice a_h rz.length c_h] 41)))
  replace Oy0_14 := Lib.hid (Oy0_14.out.on (Ext.alloc u14 (.cells #[.int .i64 rS, .slice a_h rz.length c_h] 41)))
  replace Oh_14 := Lib.hid (Oh_14.out.on (Ext.alloc u14 (.cells #[.int .i64 rS, .slice a_h rz.length c_h] 41)))
  have Bh_14 := Lib.hid (Box.alloc u14 #[.int .i64 rS, .slice a_h rz.length c_h] 41)
  obtain ⟨fh0, fh1⟩ := Bh_14.out.two
  obtain ⟨fw0, fw1⟩ := Bw_14.out.two
  go_wp2_with fail
  clear fh0 fh1 fw0 fw1
  refine (c_eqF rS _ _ _ _ _ rz _ RL.out Oh_14.out.reads Ow_14.out.reads).mono ?_; rintro e u15 ⟨rfl, x'⟩
  have B15 := Lib.hid (B14.out.trans x')
  have BA0_15 := Lib.hid (BA0_14.out.on x')
  have Bw_15 := Lib.hid (Bw_14.out.on x')
  have Bx0_15 := Lib.hid (Bx0_14.out.on x')
  have Bg_15 := Lib.hid (Bg_14.out.on x')
  have Bh_15 := Lib.hid (Bh_14.out.on x')
  have Os0_15 := Lib.hid (Os0_14.out.on x')
  have Ow_15 := Lib.hid (Ow_14.out.on x')
  have Ox0_15 := Lib.hid (Ox0_14.out.on x')
  have Og_15 := Lib.hid (Og_14.out.on x')
  have Ot0_15 := Lib.hid (Ot0_14.out.on x')
  have Oy0_15 := Lib.hid (Oy0_14.out.on x')
  have Oh_15 := Lib.hid (Oh_14.out.on x')
  have SZ15 := Lib.hid (show u14.heap.size + 1 ≤ u15.heap.size from Nat.le_trans (by first | omega | (simp; done) | (simp; omega)) x'.size); clear x'
  obtain ⟨fg0, fg1⟩ := Bg_15.out.two
  go_wp2_with fail
  clear fg0 fg1
  refine (c_heldF rS _ _ _ 1 _ RL.out (by decide) Og_15.out.reads).mono ?_; rintro e u16 ⟨rfl, x'⟩
  have B16 := Lib.hid (B15.out.trans x')
  have BA0_16 := Lib.hid (BA0_15.out.on x')
  have Bw_16 := Lib.hid (Bw_15.out.on x')
  have Bx0_16 := Lib.hid (Bx0_15.out.on x')
  have Bg_16 := Lib.hid (Bg_15.out.on x')
  have Bh_16 := Lib.hid (Bh_15.out.on x')
  have Os0_16 := Lib.hid (Os0_15.out.on x')
  have Ow_16 := Lib.hid (Ow_15.out.on x')
  have Ox0_16 := Lib.hid (Ox0_15.out.on x')
  have Og_16 := Lib.hid (Og_15.out.on x')
  have Ot0_16 := Lib.hid (Ot0_15.out.on x')
  have Oy0_16 := Lib.hid (Oy0_15.out.on x')
  have Oh_16 := Lib.hid (Oh_15.out.on x')
  have SZ16 := Lib.hid (show u15.heap.size ≤ u16.heap.size from Nat.le_trans (by first | omega | (simp; done) | (simp; omega)) x'.size); clear x'
  go_wp2
  go_ret
  exact ⟨rfl, B16.out⟩
end Go.Proofs.Ytfolflkbpdbkcab
