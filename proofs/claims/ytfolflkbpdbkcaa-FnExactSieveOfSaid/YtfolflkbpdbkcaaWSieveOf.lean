/- The walk of the law FnExactSieveOf. -/
import Derived.Test.YtfolflkbpdbkcaaLkv
import Derived.Test.YtfolflkbpdbkcaaSoh
import Derived.Deep.RegionHeld3
import Derived.Deep.DeepCutAuto
import Derived.Deep.LoopGhost
import Derived.WalkLawsBesides
namespace Go.Proofs.Ytfolflkbpdbkcaa
open Go.ChangeShapes Go.WideShapes Go.ChangeAt Go.RowKit
set_option linter.unusedVariables false
set_option maxHeartbeats 8000000 in
theorem walk_FnExactSieveOf (R0 : Int) (S0 : Int) (p0_2 : Option Addr) (len0_2 cap0_2 : Nat) (z0_2 : List Bool) (p1 : Option Addr) (len1 cap1 : Nat) (z1 : List Int) (w : World) (w0_0 : (Lit.int .i64 R0).wf = true) (w0_1 : (Lit.int .i64 S0).wf = true) (w0_2 : IsBRow w p0_2 len0_2 cap0_2 z0_2) (w1 : IsRow .i64 w p1 len1 cap1 z1) :
    Calls Try.prog 8 #[.agg #[.int .i64 R0, .int .i64 S0, .slice p0_2 len0_2 cap0_2], .slice p1 len1 cap1] w fun e w' => e = .returned (.bool true) ∧ Below w.heap.size w w' := by
  clear w0_0
  clear w0_1
  obtain ⟨h0_2, m0_2⟩ := w0_2.rd
  obtain ⟨zs0, hz0_2⟩ : ∃ zs, z0_2.take len0_2 = zs := ⟨_, rfl⟩
  rw [hz0_2] at h0_2
  have hl0_2 := h0_2.bool.1
  subst hl0_2
  have H0_2 := Lib.hid h0_2; have M0_2 := Lib.hid m0_2
  clear hz0_2 h0_2 m0_2 w0_2
  obtain ⟨h1, m1⟩ := w1.rd
  obtain ⟨zs1, hz1⟩ : ∃ zs, z1.take len1 = zs := ⟨_, rfl⟩
  rw [hz1] at h1
  have hl1 := h1.int.1
  subst hl1
  have H1 := Lib.hid h1; have M1 := Lib.hid m1
  clear hz1 h1 m1 w1
  have BA0_0 := Lib.hid (Box.alloc_at w #[.int .i64 R0, .int .i64 S0, .slice p0_2 zs0.length cap0_2] 24 (b := w.heap.size) (by first | omega | (simp; done) | (simp; omega)))
  have B0 := Lib.hid (show Ext w (w.alloc (.cells #[.int .i64 R0, .int .i64 S0, .slice p0_2 zs0.length cap0_2] 24)) from by (repeat (first | assumption | exact Ext.refl _ | (with_reducible refine Ext.stepS ?_ (by first | exact Nat.le_refl _ | (simp; done) | (simp; omega)) _) | (with_reducible refine Ext.stepN ?_ _) | (with_reducible refine Ext.stepD ?_) | (with_reducible refine Ext.stepA ?_ _))))
  by_cases g1 : 1048576 < zs1.length
  · go_enter Try.func8, Try.ntmps8
    have m' := M1.out
    unfold maxLen at m'
    go_wp2
    go_ret
    exact ⟨rfl, B0.out⟩
  have G1 := Lib.hid (show zs1.length ≤ 1048576 by omega)
  have gi1 : (zs1.length : Int) ≤ 1048576 := by omega
  by_cases g0 : 1048576 < zs0.length
  · go_enter Try.func8, Try.ntmps8
    go_wp2_with fail
    refine (c_szV_no R0 S0 _ _ _ 1048576 _ g0 (by decide) M0_2.out).mono ?_; rintro e u1 ⟨rfl, x'⟩
    have X := B0.out.trans x'
    clear x'
    go_wp2
    go_ret
    exact ⟨rfl, X⟩
  have G0 := Lib.hid (show zs0.length ≤ 1048576 by omega)
  clear g0
  obtain ⟨rR, rS, rz, rb, hR⟩ : ∃ R S z b, sieveOfR R0 S0 zs0 zs1 = ((⟨R, S, z⟩ : SV), b) := ⟨_, _, _, _, rfl⟩
  have RL := Lib.hid (show rz.length ≤ 1048576 from sieveOfR_le hR)
  have HV := Lib.hid hR
  clear hR
  go_enter Try.func8, Try.ntmps8
  go_wp2_with fail
  refine (c_szV_ok R0 S0 _ _ _ 1048576 _ G0.out (by decide)).mono ?_; rintro e u1 ⟨rfl, x'⟩
  have hnn0 : (0 : Int) ≤ ((1048576 - zs0.length : Nat) : Int) := by omega
  have B1 := Lib.hid (B0.out.trans x')
  have BA0_1 := Lib.hid (BA0_0.out.on x')
  have SZ1 := Lib.hid (show w.heap.size + 1 ≤ u1.heap.size from Nat.le_trans (by first | omega | (simp; done) | (simp; omega)) x'.size); clear x'
  obtain ⟨fA00, fA01, fA02⟩ := BA0_1.out.three
  go_wp2_with fail
  clear fA00 fA01 fA02
  refine (c_toV R0 S0 _ _ _ zs0 _ G0.out (H0_2.out.on B1.out)).mono ?_; rintro e u2 ⟨a_s0, c_s0, rfl, o', x'⟩
  have B2 := Lib.hid (B1.out.trans x')
  have BA0_2 := Lib.hid (BA0_1.out.on x')
  have Os0_2 := Lib.hid (o'.wide (lo' := u1.heap.size) (hi' := u2.heap.size) (by first | omega | (simp; done) | (simp; omega)) (Nat.le_refl _)); clear o'
  have SZ2 := Lib.hid (show u1.heap.size ≤ u2.heap.size from Nat.le_trans (by first | omega | (simp; done) | (simp; omega)) x'.size); clear x'
  go_wp2_with fail
  refine (c_toI _ _ _ zs1 _ G1.out (H1.out.on B2.out)).mono ?_; rintro e u3 ⟨a_s1, c_s1, rfl, o', x'⟩
  have B3 := Lib.hid (B2.out.trans x')
  have BA0_3 := Lib.hid (BA0_2.out.on x')
  have Os0_3 := Lib.hid (Os0_2.out.on x')
  have Os1_3 := Lib.hid (o'.wide (lo' := u2.heap.size) (hi' := u3.heap.size) (by first | omega | (simp; done) | (simp; omega)) (Nat.le_refl _)); clear o'
  have SZ3 := Lib.hid (show u2.heap.size ≤ u3.heap.size from Nat.le_trans (by first | omega | (simp; done) | (simp; omega)) x'.size); clear x'
  go_wp2_with fail
  refine (c_spec_SieveOf R0 S0 _ _ _ zs0 _ _ _ zs1 _ HV.out (by have := G0.out; unfold maxLen; omega) Os0_3.out.reads (by have := G1.out; unfold maxLen; omega) Os1_3.out.reads).mono ?_; rintro e u4 ⟨a_w, c_w, rfl, o', x'⟩
  have B4 := Lib.hid (B3.out.trans x')
  have BA0_4 := Lib.hid (BA0_3.out.on x')
  have Os0_4 := Lib.hid (Os0_3.out.on x')
  have Os1_4 := Lib.hid (Os1_3.out.on x')
  have Ow_4 := Lib.hid (o'.wide (lo' := u3.heap.size) (hi' := u4.heap.size) (by first | omega | (simp; done) | (simp; omega)) (Nat.le_refl _)); clear o'
  have SZ4 := Lib.hid (show u3.heap.size ≤ u4.heap.size from Nat.le_trans (by first | omega | (simp; done) | (simp; omega)) x'.size); clear x'
  replace B4 := Lib.hid (B4.out.stepA (.cells #[.int .i64 rR, .int .i64 rS, .slice a_w rz.length c_w] 27))
  replace BA0_4 := Lib.hid (BA0_4.out.past (.cells #[.int .i64 rR, .int .i64 rS, .slice a_w rz.length c_w] 27))
  replace Os0_4 := Lib.hid (Os0_4.out.on (Ext.alloc u4 (.cells #[.int .i64 rR, .int .i64 rS, .slice a_w rz.length c_w] 27)))
  replace Os1_4 := Lib.hid (Os1_4.out.on (Ext.alloc u4 (.cells #[.int .i64 rR, .int .i64 rS, .slice a_w rz.length c_w] 27)))
  replace Ow_4 := Lib.hid (Ow_4.out.on (Ext.alloc u4 (.cells #[.int .i64 rR, .int .i64 rS, .slice a_w rz.length c_w] 27)))
  have Bw_4 := Lib.hid (Box.alloc u4 #[.int .i64 rR, .int .i64 rS, .slice a_w rz.length c_w] 27)
  obtain ⟨fA00, fA01, fA02⟩ := BA0_4.out.three
  go_wp2_with fail
  clear fA00 fA01 fA02
  refine (c_toV R0 S0 _ _ _ zs0 _ G0.out (H0_2.out.on B4.out)).mono ?_; rintro e u5 ⟨a_x0, c_x0, rfl, o', x'⟩
  have B5 := Lib.hid (B4.out.trans x')
  have BA0_5 := Lib.hid (BA0_4.out.on x')
  have Bw_5 := Lib.hid (Bw_4.out.on x')
  have Os0_5 := Lib.hid (Os0_4.out.on x')
  have Os1_5 := Lib.hid (Os1_4.out.on x')
  have Ow_5 := Lib.hid (Ow_4.out.on x')
  have Ox0_5 := Lib.hid (o'.wide (lo' := u4.heap.size + 1) (hi' := u5.heap.size) (by first | omega | (simp; done) | (simp; omega)) (Nat.le_refl _)); clear o'
  have SZ5 := Lib.hid (show u4.heap.size + 1 ≤ u5.heap.size from Nat.le_trans (by first | omega | (simp; done) | (simp; omega)) x'.size); clear x'
  replace B5 := Lib.hid (B5.out.stepA (.cells #[.int .i64 R0, .int .i64 S0, .slice a_x0 zs0.length c_x0] 27))
  replace BA0_5 := Lib.hid (BA0_5.out.past (.cells #[.int .i64 R0, .int .i64 S0, .slice a_x0 zs0.length c_x0] 27))
  replace Bw_5 := Lib.hid (Bw_5.out.past (.cells #[.int .i64 R0, .int .i64 S0, .slice a_x0 zs0.length c_x0] 27))
  replace Os0_5 := Lib.hid (Os0_5.out.on (Ext.alloc u5 (.cells #[.int .i64 R0, .int .i64 S0, .slice a_x0 zs0.length c_x0] 27)))
  replace Os1_5 := Lib.hid (Os1_5.out.on (Ext.alloc u5 (.cells #[.int .i64 R0, .int .i64 S0, .slice a_x0 zs0.length c_x0] 27)))
  replace Ow_5 := Lib.hid (Ow_5.out.on (Ext.alloc u5 (.cells #[.int .i64 R0, .int .i64 S0, .slice a_x0 zs0.length c_x0] 27)))
  replace Ox0_5 := Lib.hid (Ox0_5.out.on (Ext.alloc u5 (.cells #[.int .i64 R0, .int .i64 S0, .slice a_x0 zs0.length c_x0] 27)))
  have Bx0_5 := Lib.hid (Box.alloc u5 #[.int .i64 R0, .int .i64 S0, .slice a_x0 zs0.length c_x0] 27)
  go_wp2_with fail
  refine (c_toI _ _ _ zs1 _ G1.out (H1.out.on B5.out)).mono ?_; rintro e u6 ⟨a_x1, c_x1, rfl, o', x'⟩
  have B6 := Lib.hid (B5.out.trans x')
  have BA0_6 := Lib.hid (BA0_5.out.on x')
  have Bw_6 := Lib.hid (Bw_5.out.on x')
  have Bx0_6 := Lib.hid (Bx0_5.out.on x')
  have Os0_6 := Lib.hid (Os0_5.out.on x')
  have Os1_6 := Lib.hid (Os1_5.out.on x')
  have Ow_6 := Lib.hid (Ow_5.out.on x')
  have Ox0_6 := Lib.hid (Ox0_5.out.on x')
  have Ox1_6 := Lib.hid (o'.wide (lo' := u5.heap.size + 1) (hi' := u6.heap.size) (by first | omega | (simp; done) | (simp; omega)) (Nat.le_refl _)); clear o'
  have SZ6 := Lib.hid (show u5.heap.size + 1 ≤ u6.heap.size from Nat.le_trans (by first | omega | (simp; done) | (simp; omega)) x'.size); clear x'
  obtain ⟨fx00, fx01, fx02⟩ := Bx0_6.out.three
  go_wp2_with fail
  clear fx00 fx01 fx02
  refine (c_impl_SieveOf R0 S0 _ _ _ zs0 _ _ _ zs1 _ HV.out (by have := G0.out; unfold maxLen; omega) Ox0_6.out.reads (by have := G1.out; unfold maxLen; omega) Ox1_6.out.reads).mono ?_; rintro e u7 ⟨a_g, c_g, rfl, o', x'⟩
  have B7 := Lib.hid (B6.out.trans x')
  have BA0_7 := Lib.hid (BA0_6.out.on x')
  have Bw_7 := Lib.hid (Bw_6.out.on x')
  have Bx0_7 := Lib.hid (Bx0_6.out.on x')
  have Os0_7 := Lib.hid (Os0_6.out.on x')
  have Os1_7 := Lib.hid (Os1_6.out.on x')
  have Ow_7 := Lib.hid (Ow_6.out.on x')
  have Ox0_7 := Lib.hid (Ox0_6.out.on x')
  have Ox1_7 := Lib.hid (Ox1_6.out.on x')
  have Og_7 := Lib.hid (o'.wide (lo' := u6.heap.size) (hi' := u7.heap.size) (by first | omega | (simp; done) | (simp; omega)) (Nat.le_refl _)); clear o'
  have SZ7 := Lib.hid (show u6.heap.size ≤ u7.heap.size from Nat.le_trans (by first | omega | (simp; done) | (simp; omega)) x'.size); clear x'
  replace B7 := Lib.hid (B7.out.stepA (.cells #[.int .i64 rR, .int .i64 rS, .slice a_g rz.length c_g] 27))
  replace BA0_7 := Lib.hid (BA0_7.out.past (.cells #[.int .i64 rR, .int .i64 rS, .slice a_g rz.length c_g] 27))
  replace Bw_7 := Lib.hid (Bw_7.out.past (.cells #[.int .i64 rR, .int .i64 rS, .slice a_g rz.length c_g] 27))
  replace Bx0_7 := Lib.hid (Bx0_7.out.past (.cells #[.int .i64 rR, .int .i64 rS, .slice a_g rz.length c_g] 27))
  replace Os0_7 := Lib.hid (Os0_7.out.on (Ext.alloc u7 (.cells #[.int .i64 rR, .int .i64 rS, .slice a_g rz.length c_g] 27)))
  replace Os1_7 := Lib.hid (Os1_7.out.on (Ext.alloc u7 (.cells #[.int .i64 rR, .int .i64 rS, .slice a_g rz.length c_g] 27)))
  replace Ow_7 := Lib.hid (Ow_7.out.on (Ext.alloc u7 (.cells #[.int .i64 rR, .int .i64 rS, .slice a_g rz.length c_g] 27)))
  replace Ox0_7 := Lib.hid (Ox0_7.out.on (Ext.alloc u7 (.cells #[.int .i64 rR, .int .i64 rS, .slice a_g rz.length c_g] 27)))
  replace Ox1_7 := Lib.hid (Ox1_7.out.on (Ext.alloc u7 (.cells #[.int .i64 rR, .int .i64 rS, .slice a_g rz.length c_g] 27)))
  replace Og_7 := Lib.hid (Og_7.out.on (Ext.alloc u7 (.cells #[.int .i64 rR, .int .i64 rS, .slice a_g rz.length c_g] 27)))
  have Bg_7 := Lib.hid (Box.alloc u7 #[.int .i64 rR, .int .i64 rS, .slice a_g rz.length c_g] 27)
  obtain ⟨fg0, fg1, fg2⟩ := Bg_7.out.three
  obtain ⟨fw0, fw1, fw2⟩ := Bw_7.out.three
  go_wp2_with fail
  clear fg0 fg1 fg2 fw0 fw1 fw2
  refine (c_eqV rR rS _ _ _ _ _ rz _ RL.out Og_7.out.reads Ow_7.out.reads).mono ?_; rintro e u8 ⟨rfl, x'⟩
  have B8 := Lib.hid (B7.out.trans x')
  have BA0_8 := Lib.hid (BA0_7.out.on x')
  have Bw_8 := Lib.hid (Bw_7.out.on x')
  have Bx0_8 := Lib.hid (Bx0_7.out.on x')
  have Bg_8 := Lib.hid (Bg_7.out.on x')
  have Os0_8 := Lib.hid (Os0_7.out.on x')
  have Os1_8 := Lib.hid (Os1_7.out.on x')
  have Ow_8 := Lib.hid (Ow_7.out.on x')
  have Ox0_8 := Lib.hid (Ox0_7.out.on x')
  have Ox1_8 := Lib.hid (Ox1_7.out.on x')
  have Og_8 := Lib.hid (Og_7.out.on x')
  have SZ8 := Lib.hid (show u7.heap.size + 1 ≤ u8.heap.size from Nat.le_trans (by first | omega | (simp; done) | (simp; omega)) x'.size); clear x'
  obtain ⟨fA00, fA01, fA02⟩ := BA0_8.out.three
  obtain ⟨fx00, fx01, fx02⟩ := Bx0_8.out.three
  go_wp2_with fail
  go_region_held3 (fun w' => w'.cell? ⟨w.heap.size, 0, none⟩ = some (.int .i64 R0) ∧ w'.cell? ⟨w.heap.size, 1, none⟩ = some (.int .i64 S0) ∧ w'.cell? ⟨w.heap.size, 2, none⟩ = some (.slice p0_2 zs0.length cap0_2) ∧ w'.cell? ⟨u5.heap.size, 0, none⟩ = some (.int .i64 R0) ∧ w'.cell? ⟨u5.heap.size, 1, none⟩ = some (.int .i64 S0) ∧ w'.cell? ⟨u5.heap.size, 2, none⟩ = some (.slice a_x0 zs0.length c_x0)) (first | exact ⟨KA.1, KA.2.1, KA.2.2, KX.1, KX.2.1, KX.2.2⟩ | go_keep) (first | (go_at_call 17; refine (c_toV R0 S0 _ _ _ zs0 _ G0.out (H0_2.out.on B8.out.stepD)).mono ?_; rintro e u9 ⟨a_t0, c_t0, rfl, o', x'⟩; have B9 := Lib.hid (B8.out.stepD.trans x'); have BA0_9 := Lib.hid ((BA0_8.out.on (Ext.drew _)).on x'); have Bw_9 := Lib.hid ((Bw_8.out.on (Ext.drew _)).on x'); have Bx0_9 := Lib.hid ((Bx0_8.out.on (Ext.drew _)).on x'); have Bg_9 := Lib.hid ((Bg_8.out.on (Ext.drew _)).on x'); have Os0_9 := Lib.hid ((Os0_8.out.on (Ext.drew _)).on x'); have Os1_9 := Lib.hid ((Os1_8.out.on (Ext.drew _)).on x'); have Ow_9 := Lib.hid ((Ow_8.out.on (Ext.drew _)).on x'); have Ox0_9 := Lib.hid ((Ox0_8.out.on (Ext.drew _)).on x'); have Ox1_9 := Lib.hid ((Ox1_8.out.on (Ext.drew _)).on x'); have Og_9 := Lib.hid ((Og_8.out.on (Ext.drew _)).on x'); have Ot0_9 := Lib.hid (o'.wide (lo' := u8.heap.size) (hi' := u9.heap.size) (by first | omega | (simp; done) | (simp; omega)) (Nat.le_refl _)); have SZ9 := Lib.hid (show u8.heap.size ≤ u9.heap.size from Nat.le_trans (by first | omega | (simp; done) | (simp; omega)) x'.size); have KA := BA0_9.out.three; have KX := Bx0_9.out.three; clear o' x') | (go_at_call 19; refine (c_eqV R0 S0 _ _ _ _ _ zs0 _ G0.out Ox0_9.out.reads Ot0_9.out.reads).mono ?_; rintro e u10 ⟨rfl, x'⟩; have B10 := Lib.hid (B9.out.trans x'); have BA0_10 := Lib.hid (BA0_9.out.on x'); have Bw_10 := Lib.hid (Bw_9.out.on x'); have Bx0_10 := Lib.hid (Bx0_9.out.on x'); have Bg_10 := Lib.hid (Bg_9.out.on x'); have Os0_10 := Lib.hid (Os0_9.out.on x'); have Os1_10 := Lib.hid (Os1_9.out.on x'); have Ow_10 := Lib.hid (Ow_9.out.on x'); have Ox0_10 := Lib.hid (Ox0_9.out.on x'); have Ox1_10 := Lib.hid (Ox1_9.out.on x'); have Og_10 := Lib.hid (Og_9.out.on x'); have Ot0_10 := Lib.hid (Ot0_9.out.on x'); have SZ10 := Lib.hid (show u9.heap.size ≤ u10.heap.size from x'.size); clear KA KX; have KA := BA0_10.out.three; have KX := Bx0_10.out.three; clear x'))
  clear KA KX fA00 fA01 fA02 fx00 fx01 fx02
  go_wp2_with fail
  refine (c_toI _ _ _ zs1 _ G1.out (H1.out.on B10.out)).mono ?_; rintro e u11 ⟨a_t1, c_t1, rfl, o', x'⟩
  have B11 := Lib.hid (B10.out.trans x')
  have BA0_11 := Lib.hid (BA0_10.out.on x')
  have Bw_11 := Lib.hid (Bw_10.out.on x')
  have Bx0_11 := Lib.hid (Bx0_10.out.on x')
  have Bg_11 := Lib.hid (Bg_10.out.on x')
  have Os0_11 := Lib.hid (Os0_10.out.on x')
  have Os1_11 := Lib.hid (Os1_10.out.on x')
  have Ow_11 := Lib.hid (Ow_10.out.on x')
  have Ox0_11 := Lib.hid (Ox0_10.out.on x')
  have Ox1_11 := Lib.hid (Ox1_10.out.on x')
  have Og_11 := Lib.hid (Og_10.out.on x')
  have Ot0_11 := Lib.hid (Ot0_10.out.on x')
  have Ot1_11 := Lib.hid (o'.wide (lo' := u10.heap.size) (hi' := u11.heap.size) (by first | omega | (simp; done) | (simp; omega)) (Nat.le_refl _)); clear o'
  have SZ11 := Lib.hid (show u10.heap.size ≤ u11.heap.size from Nat.le_trans (by first | omega | (simp; done) | (simp; omega)) x'.size); clear x'
  go_wp2_with fail
  refine (c_eqI_E _ _ _ _ _ zs1 _ G1.out Ox1_11.out.reads Ot1_11.out.reads).mono ?_; rintro e u12 ⟨rfl, x'⟩
  have B12 := Lib.hid (B11.out.trans x')
  have BA0_12 := Lib.hid (BA0_11.out.on x')
  have Bw_12 := Lib.hid (Bw_11.out.on x')
  have Bx0_12 := Lib.hid (Bx0_11.out.on x')
  have Bg_12 := Lib.hid (Bg_11.out.on x')
  have Os0_12 := Lib.hid (Os0_11.out.on x')
  have Os1_12 := Lib.hid (Os1_11.out.on x')
  have Ow_12 := Lib.hid (Ow_11.out.on x')
  have Ox0_12 := Lib.hid (Ox0_11.out.on x')
  have Ox1_12 := Lib.hid (Ox1_11.out.on x')
  have Og_12 := Lib.hid (Og_11.out.on x')
  have Ot0_12 := Lib.hid (Ot0_11.out.on x')
  have Ot1_12 := Lib.hid (Ot1_11.out.on x')
  have SZ12 := Lib.hid (show u11.heap.size ≤ u12.heap.size from Nat.le_trans (by first | omega | (simp; done) | (simp; omega)) x'.size); clear x'
  obtain ⟨kk0, hkk⟩ : ∃ k, 1 + zs0.length = k := ⟨_, rfl⟩; have HKK0 := Lib.hid hkk; clear hkk
  obtain ⟨fx00, fx01, fx02⟩ := Bx0_12.out.three
  go_wp2_with fail
  clear fx00 fx01 fx02
  refine (c_markV R0 S0 (u4.heap.size + 1) (u5.heap.size) _ _ _ 1 _ _ G0.out (by decide) Ox0_12.out (by have := SZ1.out; have := SZ2.out; have := SZ3.out; have := SZ4.out; have := SZ5.out; have := SZ6.out; have := SZ7.out; have := SZ8.out; have := SZ9.out; have := SZ10.out; have := SZ11.out; have := SZ12.out; omega)).mono ?_; rintro e u13 ⟨he, o', t'⟩; rw [HKK0.out] at he; subst he
  have B13 := Lib.hid (Touch.ext B12.out t' (by have := SZ1.out; have := SZ2.out; have := SZ3.out; have := SZ4.out; have := SZ5.out; have := SZ6.out; have := SZ7.out; have := SZ8.out; have := SZ9.out; have := SZ10.out; have := SZ11.out; have := SZ12.out; omega))
  have BA0_13 := Lib.hid (BA0_12.out.beside t' (by have := SZ1.out; have := SZ2.out; have := SZ3.out; have := SZ4.out; have := SZ5.out; have := SZ6.out; have := SZ7.out; have := SZ8.out; have := SZ9.out; have := SZ10.out; have := SZ11.out; have := SZ12.out; omega))
  have Bw_13 := Lib.hid (Bw_12.out.beside t' (by have := SZ1.out; have := SZ2.out; have := SZ3.out; have := SZ4.out; have := SZ5.out; have := SZ6.out; have := SZ7.out; have := SZ8.out; have := SZ9.out; have := SZ10.out; have := SZ11.out; have := SZ12.out; omega))
  have Bx0_13 := Lib.hid (Bx0_12.out.beside t' (by have := SZ1.out; have := SZ2.out; have := SZ3.out; have := SZ4.out; have := SZ5.out; have := SZ6.out; have := SZ7.out; have := SZ8.out; have := SZ9.out; have := SZ10.out; have := SZ11.out; have := SZ12.out; omega))
  have Bg_13 := Lib.hid (Bg_12.out.beside t' (by have := SZ1.out; have := SZ2.out; have := SZ3.out; have := SZ4.out; have := SZ5.out; have := SZ6.out; have := SZ7.out; have := SZ8.out; have := SZ9.out; have := SZ10.out; have := SZ11.out; have := SZ12.out; omega))
  have Os0_13 := Lib.hid (Os0_12.out.beside t' (by have := SZ1.out; have := SZ2.out; have := SZ3.out; have := SZ4.out; have := SZ5.out; have := SZ6.out; have := SZ7.out; have := SZ8.out; have := SZ9.out; have := SZ10.out; have := SZ11.out; have := SZ12.out; omega))
  have Os1_13 := Lib.hid (Os1_12.out.beside t' (by have := SZ1.out; have := SZ2.out; have := SZ3.out; have := SZ4.out; have := SZ5.out; have := SZ6.out; have := SZ7.out; have := SZ8.out; have := SZ9.out; have := SZ10.out; have := SZ11.out; have := SZ12.out; omega))
  have Ow_13 := Lib.hid (Ow_12.out.beside t' (by have := SZ1.out; have := SZ2.out; have := SZ3.out; have := SZ4.out; have := SZ5.out; have := SZ6.out; have := SZ7.out; have := SZ8.out; have := SZ9.out; have := SZ10.out; have := SZ11.out; have := SZ12.out; omega))
  have Ox1_13 := Lib.hid (Ox1_12.out.beside t' (by have := SZ1.out; have := SZ2.out; have := SZ3.out; have := SZ4.out; have := SZ5.out; have := SZ6.out; have := SZ7.out; have := SZ8.out; have := SZ9.out; have := SZ10.out; have := SZ11.out; have := SZ12.out; omega))
  have Og_13 := Lib.hid (Og_12.out.beside t' (by have := SZ1.out; have := SZ2.out; have := SZ3.out; have := SZ4.out; have := SZ5.out; have := SZ6.out; have := SZ7.out; have := SZ8.out; have := SZ9.out; have := SZ10.out; have := SZ11.out; have := SZ12.out; omega))
  have Ot0_13 := Lib.hid (Ot0_12.out.beside t' (by have := SZ1.out; have := SZ2.out; have := SZ3.out; have := SZ4.out; have := SZ5.out; have := SZ6.out; have := SZ7.out; have := SZ8.out; have := SZ9.out; have := SZ10.out; have := SZ11.out; have := SZ12.out; omega))
  have Ot1_13 := Lib.hid (Ot1_12.out.beside t' (by have := SZ1.out; have := SZ2.out; have := SZ3.out; have := SZ4.out; have := SZ5.out; have := SZ6.out; have := SZ7.out; have := SZ8.out; have := SZ9.out; have := SZ10.out; have := SZ11.out; have := SZ12.out; omega))
  have Ox0_13 := Lib.hid o'
  have SZ13 := Lib.hid (show u12.heap.size ≤ u13.heap.size from Nat.le_trans (by first | omega | (simp; done) | (simp; omega)) t'.size); clear o' t'
  go_wp2_with fail
  refine (c_markI (u5.heap.size + 1) (u6.heap.size) _ _ _ kk0 _ _ G1.out (by have := HKK0.out; have := G0.out; omega) Ox1_13.out).mono ?_; rintro e u14 ⟨rfl, o', t'⟩
  have B14 := Lib.hid (Touch.ext B13.out t' (by have := SZ1.out; have := SZ2.out; have := SZ3.out; have := SZ4.out; have := SZ5.out; have := SZ6.out; have := SZ7.out; have := SZ8.out; have := SZ9.out; have := SZ10.out; have := SZ11.out; have := SZ12.out; have := SZ13.out; omega))
  have BA0_14 := Lib.hid (BA0_13.out.beside t' (by have := SZ1.out; have := SZ2.out; have := SZ3.out; have := SZ4.out; have := SZ5.out; have := SZ6.out; have := SZ7.out; have := SZ8.out; have := SZ9.out; have := SZ10.out; have := SZ11.out; have := SZ12.out; have := SZ13.out; omega))
  have Bw_14 := Lib.hid (Bw_13.out.beside t' (by have := SZ1.out; have := SZ2.out; have := SZ3.out; have := SZ4.out; have := SZ5.out; have := SZ6.out; have := SZ7.out; have := SZ8.out; have := SZ9.out; have := SZ10.out; have := SZ11.out; have := SZ12.out; have := SZ13.out; omega))
  have Bx0_14 := Lib.hid (Bx0_13.out.beside t' (by have := SZ1.out; have := SZ2.out; have := SZ3.out; have := SZ4.out; have := SZ5.out; have := SZ6.out; have := SZ7.out; have := SZ8.out; have := SZ9.out; have := SZ10.out; have := SZ11.out; have := SZ12.out; have := SZ13.out; omega))
  have Bg_14 := Lib.hid (Bg_13.out.beside t' (by have := SZ1.out; have := SZ2.out; have := SZ3.out; have := SZ4.out; have := SZ5.out; have := SZ6.out; have := SZ7.out; have := SZ8.out; have := SZ9.out; have := SZ10.out; have := SZ11.out; have := SZ12.out; have := SZ13.out; omega))
  have Os0_14 := Lib.hid (Os0_13.out.beside t' (by have := SZ1.out; have := SZ2.out; have := SZ3.out; have := SZ4.out; have := SZ5.out; have := SZ6.out; have := SZ7.out; have := SZ8.out; have := SZ9.out; have := SZ10.out; have := SZ11.out; have := SZ12.out; have := SZ13.out; omega))
  have Os1_14 := Lib.hid (Os1_13.out.beside t' (by have := SZ1.out; have := SZ2.out; have := SZ3.out; have := SZ4.out; have := SZ5.out; have := SZ6.out; have := SZ7.out; have := SZ8.out; have := SZ9.out; have := SZ10.out; have := SZ11.out; have := SZ12.out; have := SZ13.out; omega))
  have Ow_14 := Lib.hid (Ow_13.out.beside t' (by have := SZ1.out; have := SZ2.out; have := SZ3.out; have := SZ4.out; have := SZ5.out; have := SZ6.out; have := SZ7.out; have := SZ8.out; have := SZ9.out; have := SZ10.out; have := SZ11.out; have := SZ12.out; have := SZ13.out; omega))
  have Ox0_14 := Lib.hid (Ox0_13.out.beside t' (by have := SZ1.out; have := SZ2.out; have := SZ3.out; have := SZ4.out; have := SZ5.out; have := SZ6.out; have := SZ7.out; have := SZ8.out; have := SZ9.out; have := SZ10.out; have := SZ11.out; have := SZ12.out; have := SZ13.out; omega))
  have Og_14 := Lib.hid (Og_13.out.beside t' (by have := SZ1.out; have := SZ2.out; have := SZ3.out; have := SZ4.out; have := SZ5.out; have := SZ6.out; have := SZ7.out; have := SZ8.out; have := SZ9.out; have := SZ10.out; have := SZ11.out; have := SZ12.out; have := SZ13.out; omega))
  have Ot0_14 := Lib.hid (Ot0_13.out.beside t' (by have := SZ1.out; have := SZ2.out; have := SZ3.out; have := SZ4.out; have := SZ5.out; have := SZ6.out; have := SZ7.out; have := SZ8.out; have := SZ9.out; have := SZ10.out; have := SZ11.out; have := SZ12.out; have := SZ13.out; omega))
  have Ot1_14 := Lib.hid (Ot1_13.out.beside t' (by have := SZ1.out; have := SZ2.out; have := SZ3.out; have := SZ4.out; have := SZ5.out; have := SZ6.out; have := SZ7.out; have := SZ8.out; have := SZ9.out; have := SZ10.out; have := SZ11.out; have := SZ12.out; have := SZ13.out; omega))
  have Ox1_14 := Lib.hid o'
  have SZ14 := Lib.hid (show u13.heap.size ≤ u14.heap.size from Nat.le_trans (by first | omega | (simp; done) | (simp; omega)) t'.size); clear o' t'
  obtain ⟨fg0, fg1, fg2⟩ := Bg_14.out.three
  obtain ⟨fw0, fw1, fw2⟩ := Bw_14.out.three
  go_wp2_with fail
  clear fg0 fg1 fg2 fw0 fw1 fw2
  refine (c_eqV rR rS _ _ _ _ _ rz _ RL.out Og_14.out.reads Ow_14.out.reads).mono ?_; rintro e u15 ⟨rfl, x'⟩
  have B15 := Lib.hid (B14.out.trans x')
  have BA0_15 := Lib.hid (BA0_14.out.on x')
  have Bw_15 := Lib.hid (Bw_14.out.on x')
  have Bx0_15 := Lib.hid (Bx0_14.out.on x')
  have Bg_15 := Lib.hid (Bg_14.out.on x')
  have Os0_15 := Lib.hid (Os0_14.out.on x')
  have Os1_15 := Lib.hid (Os1_14.out.on x')
  have Ow_15 := Lib.hid (Ow_14.out.on x')
  have Ox0_15 := Lib.hid (Ox0_14.out.on x')
  have Ox1_15 := Lib.hid (Ox1_14.out.on x')
  have Og_15 := Lib.hid (Og_14.out.on x')
  have Ot0_15 := Lib.hid (Ot0_14.out.on x')
  have Ot1_15 := Lib.hid (Ot1_14.out.on x')
  have SZ15 := Lib.hid (show u14.heap.size ≤ u15.heap.size from Nat.le_trans (by first | omega | (simp; done) | (simp; omega)) x'.size); clear x'
  obtain ⟨fg0, fg1, fg2⟩ := Bg_15.out.three
  go_wp2_with fail
  clear fg0 fg1 fg2
  refine (c_markV rR rS (u6.heap.size) (u7.heap.size) _ _ _ 1 _ _ RL.out (by decide) Og_15.out (by have := SZ1.out; have := SZ2.out; have := SZ3.out; have := SZ4.out; have := SZ5.out; have := SZ6.out; have := SZ7.out; have := SZ8.out; have := SZ9.out; have := SZ10.out; have := SZ11.out; have := SZ12.out; have := SZ13.out; have := SZ14.out; have := SZ15.out; omega)).mono ?_; rintro e u16 ⟨rfl, o', t'⟩
  have B16 := Lib.hid (Touch.ext B15.out t' (by have := SZ1.out; have := SZ2.out; have := SZ3.out; have := SZ4.out; have := SZ5.out; have := SZ6.out; have := SZ7.out; have := SZ8.out; have := SZ9.out; have := SZ10.out; have := SZ11.out; have := SZ12.out; have := SZ13.out; have := SZ14.out; have := SZ15.out; omega))
  have BA0_16 := Lib.hid (BA0_15.out.beside t' (by have := SZ1.out; have := SZ2.out; have := SZ3.out; have := SZ4.out; have := SZ5.out; have := SZ6.out; have := SZ7.out; have := SZ8.out; have := SZ9.out; have := SZ10.out; have := SZ11.out; have := SZ12.out; have := SZ13.out; have := SZ14.out; have := SZ15.out; omega))
  have Bw_16 := Lib.hid (Bw_15.out.beside t' (by have := SZ1.out; have := SZ2.out; have := SZ3.out; have := SZ4.out; have := SZ5.out; have := SZ6.out; have := SZ7.out; have := SZ8.out; have := SZ9.out; have := SZ10.out; have := SZ11.out; have := SZ12.out; have := SZ13.out; have := SZ14.out; have := SZ15.out; omega))
  have Bx0_16 := Lib.hid (Bx0_15.out.beside t' (by have := SZ1.out; have := SZ2.out; have := SZ3.out; have := SZ4.out; have := SZ5.out; have := SZ6.out; have := SZ7.out; have := SZ8.out; have := SZ9.out; have := SZ10.out; have := SZ11.out; have := SZ12.out; have := SZ13.out; have := SZ14.out; have := SZ15.out; omega))
  have Bg_16 := Lib.hid (Bg_15.out.beside t' (by have := SZ1.out; have := SZ2.out; have := SZ3.out; have := SZ4.out; have := SZ5.out; have := SZ6.out; have := SZ7.out; have := SZ8.out; have := SZ9.out; have := SZ10.out; have := SZ11.out; have := SZ12.out; have := SZ13.out; have := SZ14.out; have := SZ15.out; omega))
  have Os0_16 := Lib.hid (Os0_15.out.beside t' (by have := SZ1.out; have := SZ2.out; have := SZ3.out; have := SZ4.out; have := SZ5.out; have := SZ6.out; have := SZ7.out; have := SZ8.out; have := SZ9.out; have := SZ10.out; have := SZ11.out; have := SZ12.out; have := SZ13.out; have := SZ14.out; have := SZ15.out; omega))
  have Os1_16 := Lib.hid (Os1_15.out.beside t' (by have := SZ1.out; have := SZ2.out; have := SZ3.out; have := SZ4.out; have := SZ5.out; have := SZ6.out; have := SZ7.out; have := SZ8.out; have := SZ9.out; have := SZ10.out; have := SZ11.out; have := SZ12.out; have := SZ13.out; have := SZ14.out; have := SZ15.out; omega))
  have Ow_16 := Lib.hid (Ow_15.out.beside t' (by have := SZ1.out; have := SZ2.out; have := SZ3.out; have := SZ4.out; have := SZ5.out; have := SZ6.out; have := SZ7.out; have := SZ8.out; have := SZ9.out; have := SZ10.out; have := SZ11.out; have := SZ12.out; have := SZ13.out; have := SZ14.out; have := SZ15.out; omega))
  have Ox0_16 := Lib.hid (Ox0_15.out.beside t' (by have := SZ1.out; have := SZ2.out; have := SZ3.out; have := SZ4.out; have := SZ5.out; have := SZ6.out; have := SZ7.out; have := SZ8.out; have := SZ9.out; have := SZ10.out; have := SZ11.out; have := SZ12.out; have := SZ13.out; have := SZ14.out; have := SZ15.out; omega))
  have Ox1_16 := Lib.hid (Ox1_15.out.beside t' (by have := SZ1.out; have := SZ2.out; have := SZ3.out; have := SZ4.out; have := SZ5.out; have := SZ6.out; have := SZ7.out; have := SZ8.out; have := SZ9.out; have := SZ10.out; have := SZ11.out; have := SZ12.out; have := SZ13.out; have := SZ14.out; have := SZ15.out; omega))
  have Ot0_16 := Lib.hid (Ot0_15.out.beside t' (by have := SZ1.out; have := SZ2.out; have := SZ3.out; have := SZ4.out; have := SZ5.out; have := SZ6.out; have := SZ7.out; have := SZ8.out; have := SZ9.out; have := SZ10.out; have := SZ11.out; have := SZ12.out; have := SZ13.out; have := SZ14.out; have := SZ15.out; omega))
  have Ot1_16 := Lib.hid (Ot1_15.out.beside t' (by have := SZ1.out; have := SZ2.out; have := SZ3.out; have := SZ4.out; have := SZ5.out; have := SZ6.out; have := SZ7.out; have := SZ8.out; have := SZ9.out; have := SZ10.out; have := SZ11.out; have := SZ12.out; have := SZ13.out; have := SZ14.out; have := SZ15.out; omega))
  have Og_16 := Lib.hid o'
  have SZ16 := Lib.hid (show u15.heap.size ≤ u16.heap.size from Nat.le_trans (by first | omega | (simp; done) | (simp; omega)) t'.size); clear o' t'
  obtain ⟨fg0, fg1, fg2⟩ := Bg_16.out.three
  go_wp2_with fail
  clear fg0 fg1 fg2
  refine (c_heldV rR rS _ _ _ 1 _ RL.out (by decide) Og_16.out.reads).mono ?_; rintro e u17 ⟨rfl, x'⟩
  have B17 := Lib.hid (B16.out.trans x')
  have BA0_17 := Lib.hid (BA0_16.out.on x')
  have Bw_17 := Lib.hid (Bw_16.out.on x')
  have Bx0_17 := Lib.hid (Bx0_16.out.on x')
  have Bg_17 := Lib.hid (Bg_16.out.on x')
  have Os0_17 := Lib.hid (Os0_16.out.on x')
  have Os1_17 := Lib.hid (Os1_16.out.on x')
  have Ow_17 := Lib.hid (Ow_16.out.on x')
  have Ox0_17 := Lib.hid (Ox0_16.out.on x')
  have Ox1_17 := Lib.hid (Ox1_16.out.on x')
  have Og_17 := Lib.hid (Og_16.out.on x')
  have Ot0_17 := Lib.hid (Ot0_16.out.on x')
  have Ot1_17 := Lib.hid (Ot1_16.out.on x')
  have SZ17 := Lib.hid (show u16.heap.size ≤ u17.heap.size from Nat.le_trans (by first | omega | (simp; done) | (simp; omega)) x'.size); clear x'
  obtain ⟨fA00, fA01, fA02⟩ := BA0_17.out.three
  go_wp2_with fail
  clear fA00 fA01 fA02
  refine (c_toV R0 S0 _ _ _ zs0 _ G0.out (H0_2.out.on B17.out)).mono ?_; rintro e u18 ⟨a_y0, c_y0, rfl, o', x'⟩
  have B18 := Lib.hid (B17.out.trans x')
  have BA0_18 := Lib.hid (BA0_17.out.on x')
  have Bw_18 := Lib.hid (Bw_17.out.on x')
  have Bx0_18 := Lib.hid (Bx0_17.out.on x')
  have Bg_18 := Lib.hid (Bg_17.out.on x')
  have Os0_18 := Lib.hid (Os0_17.out.on x')
  have Os1_18 := Lib.hid (Os1_17.out.on x')
  have Ow_18 := Lib.hid (Ow_17.out.on x')
  have Ox0_18 := Lib.hid (Ox0_17.out.on x')
  have Ox1_18 := Lib.hid (Ox1_17.out.on x')
  have Og_18 := Lib.hid (Og_17.out.on x')
  have Ot0_18 := Lib.hid (Ot0_17.out.on x')
  have Ot1_18 := Lib.hid (Ot1_17.out.on x')
  have Oy0_18 := Lib.hid (o'.wide (lo' := u17.heap.size) (hi' := u18.heap.size) (by first | omega | (simp; done) | (simp; omega)) (Nat.le_refl _)); clear o'
  have SZ18 := Lib.hid (show u17.heap.size ≤ u18.heap.size from Nat.le_trans (by first | omega | (simp; done) | (simp; omega)) x'.size); clear x'
  go_wp2_with fail
  refine (c_toI _ _ _ zs1 _ G1.out (H1.out.on B18.out)).mono ?_; rintro e u19 ⟨a_y1, c_y1, rfl, o', x'⟩
  have B19 := Lib.hid (B18.out.trans x')
  have BA0_19 := Lib.hid (BA0_18.out.on x')
  have Bw_19 := Lib.hid (Bw_18.out.on x')
  have Bx0_19 := Lib.hid (Bx0_18.out.on x')
  have Bg_19 := Lib.hid (Bg_18.out.on x')
  have Os0_19 := Lib.hid (Os0_18.out.on x')
  have Os1_19 := Lib.hid (Os1_18.out.on x')
  have Ow_19 := Lib.hid (Ow_18.out.on x')
  have Ox0_19 := Lib.hid (Ox0_18.out.on x')
  have Ox1_19 := Lib.hid (Ox1_18.out.on x')
  have Og_19 := Lib.hid (Og_18.out.on x')
  have Ot0_19 := Lib.hid (Ot0_18.out.on x')
  have Ot1_19 := Lib.hid (Ot1_18.out.on x')
  have Oy0_19 := Lib.hid (Oy0_18.out.on x')
  have Oy1_19 := Lib.hid (o'.wide (lo' := u18.heap.size) (hi' := u19.heap.size) (by first | omega | (simp; done) | (simp; omega)) (Nat.le_refl _)); clear o'
  have SZ19 := Lib.hid (show u18.heap.size ≤ u19.heap.size from Nat.le_trans (by first | omega | (simp; done) | (simp; omega)) x'.size); clear x'
  go_wp2_with fail
  refine (c_impl_SieveOf R0 S0 _ _ _ zs0 _ _ _ zs1 _ HV.out (by have := G0.out; unfold maxLen; omega) Oy0_19.out.reads (by have := G1.out; unfold maxLen; omega) Oy1_19.out.reads).mono ?_; rintro e u20 ⟨a_h, c_h, rfl, o', x'⟩
  have B20 := Lib.hid (B19.out.trans x')
  have BA0_20 := Lib.hid (BA0_19.out.on x')
  have Bw_20 := Lib.hid (Bw_19.out.on x')
  have Bx0_20 := Lib.hid (Bx0_19.out.on x')
  have Bg_20 := Lib.hid (Bg_19.out.on x')
  have Os0_20 := Lib.hid (Os0_19.out.on x')
  have Os1_20 := Lib.hid (Os1_19.out.on x')
  have Ow_20 := Lib.hid (Ow_19.out.on x')
  have Ox0_20 := Lib.hid (Ox0_19.out.on x')
  have Ox1_20 := Lib.hid (Ox1_19.out.on x')
  have Og_20 := Lib.hid (Og_19.out.on x')
  have Ot0_20 := Lib.hid (Ot0_19.out.on x')
  have Ot1_20 := Lib.hid (Ot1_19.out.on x')
  have Oy0_20 := Lib.hid (Oy0_19.out.on x')
  have Oy1_20 := Lib.hid (Oy1_19.out.on x')
  have Oh_20 := Lib.hid (o'.wide (lo' := u19.heap.size) (hi' := u20.heap.size) (by first | omega | (simp; done) | (simp; omega)) (Nat.le_refl _)); clear o'
  have SZ20 := Lib.hid (show u19.heap.size ≤ u20.heap.size from Nat.le_trans (by first | omega | (simp; done) | (simp; omega)) x'.size); clear x'
  replace B20 := Lib.hid (B20.out.stepA (.cells #[.int .i64 rR, .int .i64 rS, .slice a_h rz.length c_h] 27))
  replace BA0_20 := Lib.hid (BA0_20.out.past (.cells #[.int .i64 rR, .int .i64 rS, .slice a_h rz.length c_h] 27))
  replace Bw_20 := Lib.hid (Bw_20.out.past (.cells #[.int .i64 rR, .int .i64 rS, .slice a_h rz.length c_h] 27))
  replace Bx0_20 := Lib.hid (Bx0_20.out.past (.cells #[.int .i64 rR, .int .i64 rS, .slice a_h rz.length c_h] 27))
  replace Bg_20 := Lib.hid (Bg_20.out.past (.cells #[.int .i64 rR, .int .i64 rS, .slice a_h rz.length c_h] 27))
  replace Os0_20 := Lib.hid (Os0_20.out.on (Ext.alloc u20 (.cells #[.int .i64 rR, .int .i64 rS, .slice a_h rz.length c_h] 27)))
  replace Os1_20 := Lib.hid (Os1_20.out.on (Ext.alloc u20 (.cells #[.int .i64 rR, .int .i64 rS, .slice a_h rz.length c_h] 27)))
  replace Ow_20 := Lib.hid (Ow_20.out.on (Ext.alloc u20 (.cells #[.int .i64 rR, .int .i64 rS, .slice a_h rz.length c_h] 27)))
  replace Ox0_20 := Lib.hid (Ox0_20.out.on (Ext.alloc u20 (.cells #[.int .i64 rR, .int .i64 rS, .slice a_h rz.length c_h] 27)))
  replace Ox1_20 := Lib.hid (Ox1_20.out.on (Ext.alloc u20 (.cells #[.int .i64 rR, .int .i64 rS, .slice a_h rz.length c_h] 27)))
  replace Og_20 := Lib.hid (Og_20.out.on (Ext.alloc u20 (.cells #[.int .i64 rR, .int .i64 rS, .slice a_h rz.length c_h] 27)))
  replace Ot0_20 := Lib.hid (Ot0_20.out.on (Ext.alloc u20 (.cells #[.int .i64 rR, .int .i64 rS, .slice a_h rz.length c_h] 27)))
  replace Ot1_20 := Lib.hid (Ot1_20.out.on (Ext.alloc u20 (.cells #[.int .i64 rR, .int .i64 rS, .slice a_h rz.length c_h] 27)))
  replace Oy0_20 := Lib.hid (Oy0_20.out.on (Ext.alloc u20 (.cells #[.int .i64 rR, .int .i64 rS, .slice a_h rz.length c_h] 27)))
  replace Oy1_20 := Lib.hid (Oy1_20.out.on (Ext.alloc u20 (.cells #[.int .i64 rR, .int .i64 rS, .slice a_h rz.length c_h] 27)))
  replace Oh_20 := Lib.hid (Oh_20.out.on (Ext.alloc u20 (.cells #[.int .i64 rR, .int .i64 rS, .slice a_h rz.length c_h] 27)))
  have Bh_20 := Lib.hid (Box.alloc u20 #[.int .i64 rR, .int .i64 rS, .slice a_h rz.length c_h] 27)
  obtain ⟨fh0, fh1, fh2⟩ := Bh_20.out.three
  obtain ⟨fw0, fw1, fw2⟩ := Bw_20.out.three
  go_wp2_with fail
  clear fh0 fh1 fh2 fw0 fw1 fw2
  refine (c_eqV rR rS _ _ _ _ _ rz _ RL.out Oh_20.out.reads Ow_20.out.reads).mono ?_; rintro e u21 ⟨rfl, x'⟩
  have B21 := Lib.hid (B20.out.trans x')
  have BA0_21 := Lib.hid (BA0_20.out.on x')
  have Bw_21 := Lib.hid (Bw_20.out.on x')
  have Bx0_21 := Lib.hid (Bx0_20.out.on x')
  have Bg_21 := Lib.hid (Bg_20.out.on x')
  have Bh_21 := Lib.hid (Bh_20.out.on x')
  have Os0_21 := Lib.hid (Os0_20.out.on x')
  have Os1_21 := Lib.hid (Os1_20.out.on x')
  have Ow_21 := Lib.hid (Ow_20.out.on x')
  have Ox0_21 := Lib.hid (Ox0_20.out.on x')
  have Ox1_21 := Lib.hid (Ox1_20.out.on x')
  have Og_21 := Lib.hid (Og_20.out.on x')
  have Ot0_21 := Lib.hid (Ot0_20.out.on x')
  have Ot1_21 := Lib.hid (Ot1_20.out.on x')
  have Oy0_21 := Lib.hid (Oy0_20.out.on x')
  have Oy1_21 := Lib.hid (Oy1_20.out.on x')
  have Oh_21 := Lib.hid (Oh_20.out.on x')
  have SZ21 := Lib.hid (show u20.heap.size + 1 ≤ u21.heap.size from Nat.le_trans (by first | omega | (simp; done) | (simp; omega)) x'.size); clear x'
  obtain ⟨fg0, fg1, fg2⟩ := Bg_21.out.three
  go_wp2_with fail
  clear fg0 fg1 fg2
  refine (c_heldV rR rS _ _ _ 1 _ RL.out (by decide) Og_21.out.reads).mono ?_; rintro e u22 ⟨rfl, x'⟩
  have B22 := Lib.hid (B21.out.trans x')
  have BA0_22 := Lib.hid (BA0_21.out.on x')
  have Bw_22 := Lib.hid (Bw_21.out.on x')
  have Bx0_22 := Lib.hid (Bx0_21.out.on x')
  have Bg_22 := Lib.hid (Bg_21.out.on x')
  have Bh_22 := Lib.hid (Bh_21.out.on x')
  have Os0_22 := Lib.hid (Os0_21.out.on x')
  have Os1_22 := Lib.hid (Os1_21.out.on x')
  have Ow_22 := Lib.hid (Ow_21.out.on x')
  have Ox0_22 := Lib.hid (Ox0_21.out.on x')
  have Ox1_22 := Lib.hid (Ox1_21.out.on x')
  have Og_22 := Lib.hid (Og_21.out.on x')
  have Ot0_22 := Lib.hid (Ot0_21.out.on x')
  have Ot1_22 := Lib.hid (Ot1_21.out.on x')
  have Oy0_22 := Lib.hid (Oy0_21.out.on x')
  have Oy1_22 := Lib.hid (Oy1_21.out.on x')
  have Oh_22 := Lib.hid (Oh_21.out.on x')
  have SZ22 := Lib.hid (show u21.heap.size ≤ u22.heap.size from Nat.le_trans (by first | omega | (simp; done) | (simp; omega)) x'.size); clear x'
  go_wp2
  go_ret
  exact ⟨rfl, B22.out⟩
end Go.Proofs.Ytfolflkbpdbkcaa
