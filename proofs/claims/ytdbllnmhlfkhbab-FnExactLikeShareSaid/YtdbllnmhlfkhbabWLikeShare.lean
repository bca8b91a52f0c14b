/- The walk of the law FnExactLikeShare. -/
import Derived.Test.YtdbllnmhlfkhbabLik
import Derived.WalkLawsBesides
namespace Go.Proofs.Ytdbllnmhlfkhbab
open Go.ChangeShapes Go.WideShapes Go.ChangeAt Go.RowKit Go.Proofs.Ytdbllnmhlfkhbab.Flo
set_option linter.unusedVariables false
attribute [local go_sem] run_fl_add run_fl_sub run_fl_mul run_fl_quo run_conv run_store_float run_store_complex
set_option maxHeartbeats 2000000 in
theorem walk_FnExactLikeShare (a0 : Option Addr) (len0 cap0 : Nat) (z0 : List Int) (a1 : Option Addr) (len1 cap1 : Nat) (z1 : List Int) (a2 : Option Addr) (len2 cap2 : Nat) (z2 : List Int) (w : World) (w0 : IsRow .i64 w a0 len0 cap0 z0) (w1 : IsRow .i64 w a1 len1 cap1 z1) (w2 : IsRow .i64 w a2 len2 cap2 z2) :
    Calls Try.prog 13 #[.slice a0 len0 cap0, .slice a1 len1 cap1, .slice a2 len2 cap2] w fun e w' => e = .returned (.bool true) ∧ Below w.heap.size w w' := by
  obtain ⟨h0, m0⟩ := w0.rd
  obtain ⟨zs0, hz0⟩ : ∃ zs, z0.take len0 = zs := ⟨_, rfl⟩
  rw [hz0] at h0
  have H0 := Lib.hid h0
  clear hz0 h0 w0
  unfold maxLen at m0
  obtain ⟨h1, m1⟩ := w1.rd
  obtain ⟨zs1, hz1⟩ : ∃ zs, z1.take len1 = zs := ⟨_, rfl⟩
  rw [hz1] at h1
  have H1 := Lib.hid h1
  clear hz1 h1 w1
  unfold maxLen at m1
  obtain ⟨h2, m2⟩ := w2.rd
  obtain ⟨zs2, hz2⟩ : ∃ zs, z2.take len2 = zs := ⟨_, rfl⟩
  rw [hz2] at h2
  have H2 := Lib.hid h2
  clear hz2 h2 w2
  unfold maxLen at m2
  by_cases g0 : 1048576 < len0
  · go_enter Try.func13, Try.ntmps13
    go_wp2
    go_ret
    exact ⟨rfl, Below.refl _ _⟩
  · have G0 := Lib.hid (show len0 ≤ 1048576 by omega)
    by_cases g1 : 1048576 < len1
    · go_enter Try.func13, Try.ntmps13
      go_wp2
      go_ret
      exact ⟨rfl, Below.refl _ _⟩
    · have G1 := Lib.hid (show len1 ≤ 1048576 by omega)
      by_cases g2 : 1048576 < len2
      · go_enter Try.func13, Try.ntmps13
        go_wp2
        go_ret
        exact ⟨rfl, Below.refl _ _⟩
      · have G2 := Lib.hid (show len2 ≤ 1048576 by omega)
        have B0 := Lib.hid (Ext.refl w)
        go_enter Try.func13, Try.ntmps13
        go_wp2_with fail
        refine (c_toI _ _ _ zs0 _ G0.out (H0.out.on B0.out)).mono ?_; rintro e u1 ⟨a', c', rfl, o', x'⟩
        have X1 := Lib.hid x'; have B1 := Lib.hid (B0.out.trans x'); have S1 := Lib.hid x'.size
        have Os0_1 := Lib.hid o'
        clear o'
        clear x'
        go_wp2_with fail
        refine (c_toI _ _ _ zs1 _ G1.out (H1.out.on B1.out)).mono ?_; rintro e u2 ⟨a', c', rfl, o', x'⟩
        have X2 := Lib.hid x'; have B2 := Lib.hid (B1.out.trans x'); have S2 := Lib.hid x'.size
        have Os0_2 := Lib.hid (Os0_1.out.on x')
        have Os1_2 := Lib.hid o'
        clear o'
        clear x'
        go_wp2_with fail
        refine (c_toI _ _ _ zs2 _ G2.out (H2.out.on B2.out)).mono ?_; rintro e u3 ⟨a', c', rfl, o', x'⟩
        have X3 := Lib.hid x'; have B3 := Lib.hid (B2.out.trans x'); have S3 := Lib.hid x'.size
        have Os0_3 := Lib.hid (Os0_2.out.on x')
        have Os1_3 := Lib.hid (Os1_2.out.on x')
        have Os2_3 := Lib.hid o'
        clear o'
        clear x'
        go_wp2_with fail
        refine (c_spec_LikeShare _ _ _ zs0 _ _ _ zs1 _ _ _ zs2 _ (by have := G0.out; unfold maxLen; omega) Os0_3.out.reads (by have := G1.out; unfold maxLen; omega) Os1_3.out.reads (by have := G2.out; unfold maxLen; omega) Os2_3.out.reads).mono ?_; rintro e u4 ⟨rw, rfl, hv, x'⟩
        have HVw := Lib.hid hv; clear hv
        have X4 := Lib.hid x'; have B4 := Lib.hid (B3.out.trans x'); have S4 := Lib.hid x'.size
        have Os0_4 := Lib.hid (Os0_3.out.on x')
        have Os1_4 := Lib.hid (Os1_3.out.on x')
        have Os2_4 := Lib.hid (Os2_3.out.on x')
        clear x'
        go_wp2_with fail
        refine (c_toI _ _ _ zs0 _ G0.out (H0.out.on B4.out)).mono ?_; rintro e u5 ⟨a', c', rfl, o', x'⟩
        have X5 := Lib.hid x'; have B5 := Lib.hid (B4.out.trans x'); have S5 := Lib.hid x'.size
        have Os0_5 := Lib.hid (Os0_4.out.on x')
        have Os1_5 := Lib.hid (Os1_4.out.on x')
        have Os2_5 := Lib.hid (Os2_4.out.on x')
        have Ox0_5 := Lib.hid o'
        clear o'
        clear x'
        go_wp2_with fail
        refine (c_toI _ _ _ zs1 _ G1.out (H1.out.on B5.out)).mono ?_; rintro e u6 ⟨a', c', rfl, o', x'⟩
        have X6 := Lib.hid x'; have B6 := Lib.hid (B5.out.trans x'); have S6 := Lib.hid x'.size
        have Os0_6 := Lib.hid (Os0_5.out.on x')
        have Os1_6 := Lib.hid (Os1_5.out.on x')
        have Os2_6 := Lib.hid (Os2_5.out.on x')
        have Ox0_6 := Lib.hid (Ox0_5.out.on x')
        have Ox1_6 := Lib.hid o'
        clear o'
        clear x'
        go_wp2_with fail
        refine (c_toI _ _ _ zs2 _ G2.out (H2.out.on B6.out)).mono ?_; rintro e u7 ⟨a', c', rfl, o', x'⟩
        have X7 := Lib.hid x'; have B7 := Lib.hid (B6.out.trans x'); have S7 := Lib.hid x'.size
        have Os0_7 := Lib.hid (Os0_6.out.on x')
        have Os1_7 := Lib.hid (Os1_6.out.on x')
        have Os2_7 := Lib.hid (Os2_6.out.on x')
        have Ox0_7 := Lib.hid (Ox0_6.out.on x')
        have Ox1_7 := Lib.hid (Ox1_6.out.on x')
        have Ox2_7 := Lib.hid o'
        clear o'
        clear x'
        go_wp2_with fail
        refine (c_impl_LikeShare _ _ _ zs0 _ _ _ zs1 _ _ _ zs2 _ (by have := G0.out; unfold maxLen; omega) Ox0_7.out.reads (by have := G1.out; unfold maxLen; omega) Ox1_7.out.reads (by have := G2.out; unfold maxLen; omega) Ox2_7.out.reads).mono ?_; rintro e u8 ⟨rg, rfl, hv, x'⟩
        have HVg := Lib.hid hv; clear hv
        have X8 := Lib.hid x'; have B8 := Lib.hid (B7.out.trans x'); have S8 := Lib.hid x'.size
        have Os0_8 := Lib.hid (Os0_7.out.on x')
        have Os1_8 := Lib.hid (Os1_7.out.on x')
        have Os2_8 := Lib.hid (Os2_7.out.on x')
        have Ox0_8 := Lib.hid (Ox0_7.out.on x')
        have Ox1_8 := Lib.hid (Ox1_7.out.on x')
        have Ox2_8 := Lib.hid (Ox2_7.out.on x')
        clear x'
        go_wp2_with fail
        refine (c_sameFloat _ _ _ (by rw [fv_wideR, fv_wideR, HVw.out, HVg.out])).mono ?_; rintro e u9 ⟨rfl, hx⟩
        have x' : Ext u8 u9 := by obtain ⟨m, hm⟩ := hx; rw [hm]; first | exact Ext.drewN _ _ | exact (Ext.drewN _ _).trans (Ext.drewN _ _) | exact (Ext.drew _).trans (Ext.drewN _ _)
        clear hx
        have X9 := Lib.hid x'; have B9 := Lib.hid (B8.out.trans x'); have S9 := Lib.hid x'.size
        have Os0_9 := Lib.hid (Os0_8.out.on x')
        have Os1_9 := Lib.hid (Os1_8.out.on x')
        have Os2_9 := Lib.hid (Os2_8.out.on x')
        have Ox0_9 := Lib.hid (Ox0_8.out.on x')
        have Ox1_9 := Lib.hid (Ox1_8.out.on x')
        have Ox2_9 := Lib.hid (Ox2_8.out.on x')
        clear x'
        go_wp2_with fail
        refine (c_toI _ _ _ zs0 _ G0.out (H0.out.on B9.out)).mono ?_; rintro e u10 ⟨a', c', rfl, o', x'⟩
        have X10 := Lib.hid x'; have B10 := Lib.hid (B9.out.trans x'); have S10 := Lib.hid x'.size
        have Os0_10 := Lib.hid (Os0_9.out.on x')
        have Os1_10 := Lib.hid (Os1_9.out.on x')
        have Os2_10 := Lib.hid (Os2_9.out.on x')
        have Ox0_10 := Lib.hid (Ox0_9.out.on x')
        have Ox1_10 := Lib.hid (Ox1_9.out.on x')
        have Ox2_10 := Lib.hid (Ox2_9.out.on x')
        have Ot0_10 := Lib.hid o'
        clear o'
        clear x'
        go_wp2_with fail
        refine (c_eqI_E _ _ _ _ _ (zs0) _ G0.out Ox0_10.out.reads Ot0_10.out.reads).mono ?_; rintro e u11 ⟨rfl, x'⟩
        have X11 := Lib.hid x'; have B11 := Lib.hid (B10.out.trans x'); have S11 := Lib.hid x'.size
        have Os0_11 := Lib.hid (Os0_10.out.on x')
        have Os1_11 := Lib.hid (Os1_10.out.on x')
        have Os2_11 := Lib.hid (Os2_10.out.on x')
        have Ox0_11 := Lib.hid (Ox0_10.out.on x')
        have Ox1_11 := Lib.hid (Ox1_10.out.on x')
        have Ox2_11 := Lib.hid (Ox2_10.out.on x')
        have Ot0_11 := Lib.hid (Ot0_10.out.on x')
        clear x'
        go_wp2_with fail
        refine (c_toI _ _ _ zs1 _ G1.out (H1.out.on B11.out)).mono ?_; rintro e u12 ⟨a', c', rfl, o', x'⟩
        have X12 := Lib.hid x'; have B12 := Lib.hid (B11.out.trans x'); have S12 := Lib.hid x'.size
        have Os0_12 := Lib.hid (Os0_11.out.on x')
        have Os1_12 := Lib.hid (Os1_11.out.on x')
        have Os2_12 := Lib.hid (Os2_11.out.on x')
        have Ox0_12 := Lib.hid (Ox0_11.out.on x')
        have Ox1_12 := Lib.hid (Ox1_11.out.on x')
        have Ox2_12 := Lib.hid (Ox2_11.out.on x')
        have Ot0_12 := Lib.hid (Ot0_11.out.on x')
        have Ot1_12 := Lib.hid o'
        clear o'
        clear x'
        go_wp2_with fail
        refine (c_eqI_E _ _ _ _ _ (zs1) _ G1.out Ox1_12.out.reads Ot1_12.out.reads).mono ?_; rintro e u13 ⟨rfl, x'⟩
        have X13 := Lib.hid x'; have B13 := Lib.hid (B12.out.trans x'); have S13 := Lib.hid x'.size
        have Os0_13 := Lib.hid (Os0_12.out.on x')
        have Os1_13 := Lib.hid (Os1_12.out.on x')
        have Os2_13 := Lib.hid (Os2_12.out.on x')
        have Ox0_13 := Lib.hid (Ox0_12.out.on x')
        have Ox1_13 := Lib.hid (Ox1_12.out.on x')
        have Ox2_13 := Lib.hid (Ox2_12.out.on x')
        have Ot0_13 := Lib.hid (Ot0_12.out.on x')
        have Ot1_13 := Lib.hid (Ot1_12.out.on x')
        clear x'
        go_wp2_with fail
        refine (c_toI _ _ _ zs2 _ G2.out (H2.out.on B13.out)).mono ?_; rintro e u14 ⟨a', c', rfl, o', x'⟩
        have X14 := Lib.hid x'; have B14 := Lib.hid (B13.out.trans x'); have S14 := Lib.hid x'.size
        have Os0_14 := Lib.hid (Os0_13.out.on x')
        have Os1_14 := Lib.hid (Os1_13.out.on x')
        have Os2_14 := Lib.hid (Os2_13.out.on x')
        have Ox0_14 := Lib.hid (Ox0_13.out.on x')
        have Ox1_14 := Lib.hid (Ox1_13.out.on x')
        have Ox2_14 := Lib.hid (Ox2_13.out.on x')
        have Ot0_14 := Lib.hid (Ot0_13.out.on x')
        have Ot1_14 := Lib.hid (Ot1_13.out.on x')
        have Ot2_14 := Lib.hid o'
        clear o'
        clear x'
        go_wp2_with fail
        refine (c_eqI_E _ _ _ _ _ (zs2) _ G2.out Ox2_14.out.reads Ot2_14.out.reads).mono ?_; rintro e u15 ⟨rfl, x'⟩
        have X15 := Lib.hid x'; have B15 := Lib.hid (B14.out.trans x'); have S15 := Lib.hid x'.size
        have Os0_15 := Lib.hid (Os0_14.out.on x')
        have Os1_15 := Lib.hid (Os1_14.out.on x')
        have Os2_15 := Lib.hid (Os2_14.out.on x')
        have Ox0_15 := Lib.hid (Ox0_14.out.on x')
        have Ox1_15 := Lib.hid (Ox1_14.out.on x')
        have Ox2_15 := Lib.hid (Ox2_14.out.on x')
        have Ot0_15 := Lib.hid (Ot0_14.out.on x')
        have Ot1_15 := Lib.hid (Ot1_14.out.on x')
        have Ot2_15 := Lib.hid (Ot2_14.out.on x')
        clear x'
        go_wp2
        go_ret
        exact ⟨rfl, B15.out⟩
end Go.Proofs.Ytdbllnmhlfkhbab
