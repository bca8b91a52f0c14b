/- The walk of the law FnExactOrderByHash. -/
import Derived.Test.YtmgkbgdbahijnacObi
import Derived.WalkLawsBesides
namespace Go.Proofs.Ytmgkbgdbahijnac
open Go.ChangeShapes Go.WideShapes Go.ChangeAt Go.RowKit
set_option linter.unusedVariables false
set_option maxHeartbeats 2000000 in
theorem walk_FnExactOrderByHash (a0 : Option Addr) (len0 cap0 : Nat) (z0 : List Int) (a1 : Int) (w : World) (w0 : IsRow .i64 w a0 len0 cap0 z0) (w1 : (Lit.int .i64 a1).wf = true) :
    Calls Try.prog 12 #[.slice a0 len0 cap0, .int .i64 a1] w fun e w' => e = .returned (.bool true) ∧ Below w.heap.size w w' := by
  obtain ⟨h0, m0⟩ := w0.rd
  obtain ⟨zs0, hz0⟩ : ∃ zs, z0.take len0 = zs := ⟨_, rfl⟩
  rw [hz0] at h0
  have H0 := Lib.hid h0
  clear hz0 h0 w0
  unfold maxLen at m0
  clear w1
  by_cases g0 : 1048576 < len0
  · go_enter Try.func12, Try.ntmps12
    go_wp2
    go_ret
    exact ⟨rfl, Below.refl _ _⟩
  · have G0 := Lib.hid (show len0 ≤ 1048576 by omega)
    have RL := Lib.hid (show (ordR zs0 a1).length ≤ 1048576 from Nat.le_trans (ordR_le zs0 a1) (by decide))
    have B0 := Lib.hid (Ext.refl w)
    go_enter Try.func12, Try.ntmps12
    go_wp2_with fail
    refine (c_toI _ _ _ zs0 _ G0.out (H0.out.on B0.out)).mono ?_; rintro e u1 ⟨a', c', rfl, o', x'⟩
    have X1 := Lib.hid x'; have B1 := Lib.hid (B0.out.trans x'); have S1 := Lib.hid x'.size
    have Os0_1 := Lib.hid o'
    clear o'
    clear x'
    go_wp2_with fail
    refine (c_spec_OrderByHash _ _ _ zs0 a1 _ (by have := G0.out; unfold maxLen; omega) Os0_1.out.reads).mono ?_; rintro e u2 ⟨a', c', rfl, o', x'⟩
    have X2 := Lib.hid x'; have B2 := Lib.hid (B1.out.trans x'); have S2 := Lib.hid x'.size
    have Os0_2 := Lib.hid (Os0_1.out.on x')
    have Ow_2 := Lib.hid o'
    clear o'
    clear x'
    go_wp2_with fail
    refine (c_toI _ _ _ zs0 _ G0.out (H0.out.on B2.out)).mono ?_; rintro e u3 ⟨a', c', rfl, o', x'⟩
    have X3 := Lib.hid x'; have B3 := Lib.hid (B2.out.trans x'); have S3 := Lib.hid x'.size
    have Os0_3 := Lib.hid (Os0_2.out.on x')
    have Ow_3 := Lib.hid (Ow_2.out.on x')
    have Ox0_3 := Lib.hid o'
    clear o'
    clear x'
    go_wp2_with fail
    refine (c_impl_OrderByHash _ _ _ zs0 a1 _ (by have := G0.out; unfold maxLen; omega) Ox0_3.out.reads).mono ?_; rintro e u4 ⟨a', c', rfl, o', x'⟩
    have X4 := Lib.hid x'; have B4 := Lib.hid (B3.out.trans x'); have S4 := Lib.hid x'.size
    have Os0_4 := Lib.hid (Os0_3.out.on x')
    have Ow_4 := Lib.hid (Ow_3.out.on x')
    have Ox0_4 := Lib.hid (Ox0_3.out.on x')
    have Og_4 := Lib.hid o'
    clear o'
    clear x'
    go_wp2_with fail
    refine (c_eqI_E _ _ _ _ _ (ordR zs0 a1) _ RL.out Og_4.out.reads Ow_4.out.reads).mono ?_; rintro e u5 ⟨rfl, x'⟩
    have X5 := Lib.hid x'; have B5 := Lib.hid (B4.out.trans x'); have S5 := Lib.hid x'.size
    have Os0_5 := Lib.hid (Os0_4.out.on x')
    have Ow_5 := Lib.hid (Ow_4.out.on x')
    have Ox0_5 := Lib.hid (Ox0_4.out.on x')
    have Og_5 := Lib.hid (Og_4.out.on x')
    clear x'
    go_wp2_with fail
    refine (c_toI _ _ _ zs0 _ G0.out (H0.out.on B5.out)).mono ?_; rintro e u6 ⟨a', c', rfl, o', x'⟩
    have X6 := Lib.hid x'; have B6 := Lib.hid (B5.out.trans x'); have S6 := Lib.hid x'.size
    have Os0_6 := Lib.hid (Os0_5.out.on x')
    have Ow_6 := Lib.hid (Ow_5.out.on x')
    have Ox0_6 := Lib.hid (Ox0_5.out.on x')
    have Og_6 := Lib.hid (Og_5.out.on x')
    have Ot0_6 := Lib.hid o'
    clear o'
    clear x'
    go_wp2_with fail
    refine (c_eqI_E _ _ _ _ _ (zs0) _ G0.out Ox0_6.out.reads Ot0_6.out.reads).mono ?_; rintro e u7 ⟨rfl, x'⟩
    have X7 := Lib.hid x'; have B7 := Lib.hid (B6.out.trans x'); have S7 := Lib.hid x'.size
    have Os0_7 := Lib.hid (Os0_6.out.on x')
    have Ow_7 := Lib.hid (Ow_6.out.on x')
    have Ox0_7 := Lib.hid (Ox0_6.out.on x')
    have Og_7 := Lib.hid (Og_6.out.on x')
    have Ot0_7 := Lib.hid (Ot0_6.out.on x')
    clear x'
    go_wp2_with fail
    refine (c_markI1 (u2.heap.size) (u3.heap.size) _ _ _ _ _ G0.out Ox0_7.out).mono ?_; rintro e u8 ⟨rfl, o', t'⟩
    have B8 := Lib.hid (Touch.ext B7.out t' (by have := S1.out; have := S2.out; have := S3.out; have := S4.out; have := S5.out; have := S6.out; have := S7.out; omega))
    have Os0_8 := Lib.hid (Os0_7.out.beside t' (by have := S1.out; have := S2.out; have := S3.out; have := S4.out; have := S5.out; have := S6.out; have := S7.out; omega))
    have Ow_8 := Lib.hid (Ow_7.out.beside t' (by have := S1.out; have := S2.out; have := S3.out; have := S4.out; have := S5.out; have := S6.out; have := S7.out; omega))
    have Og_8 := Lib.hid (Og_7.out.beside t' (by have := S1.out; have := S2.out; have := S3.out; have := S4.out; have := S5.out; have := S6.out; have := S7.out; omega))
    have Ot0_8 := Lib.hid (Ot0_7.out.beside t' (by have := S1.out; have := S2.out; have := S3.out; have := S4.out; have := S5.out; have := S6.out; have := S7.out; omega))
    have Ox0_8 := Lib.hid o'
    have S8 := Lib.hid t'.size
    clear o' t'
    go_wp2_with fail
    refine (c_eqI_E _ _ _ _ _ (ordR zs0 a1) _ RL.out Og_8.out.reads Ow_8.out.reads).mono ?_; rintro e u9 ⟨rfl, x'⟩
    have X9 := Lib.hid x'; have B9 := Lib.hid (B8.out.trans x'); have S9 := Lib.hid x'.size
    have Os0_9 := Lib.hid (Os0_8.out.on x')
    have Ow_9 := Lib.hid (Ow_8.out.on x')
    have Ox0_9 := Lib.hid (Ox0_8.out.on x')
    have Og_9 := Lib.hid (Og_8.out.on x')
    have Ot0_9 := Lib.hid (Ot0_8.out.on x')
    clear x'
    go_wp2_with fail
    refine (c_markI1 (u3.heap.size) (u4.heap.size) _ _ _ _ _ RL.out Og_9.out).mono ?_; rintro e u10 ⟨rfl, o', t'⟩
    have B10 := Lib.hid (Touch.ext B9.out t' (by have := S1.out; have := S2.out; have := S3.out; have := S4.out; have := S5.out; have := S6.out; have := S7.out; have := S8.out; have := S9.out; omega))
    have Os0_10 := Lib.hid (Os0_9.out.beside t' (by have := S1.out; have := S2.out; have := S3.out; have := S4.out; have := S5.out; have := S6.out; have := S7.out; have := S8.out; have := S9.out; omega))
    have Ow_10 := Lib.hid (Ow_9.out.beside t' (by have := S1.out; have := S2.out; have := S3.out; have := S4.out; have := S5.out; have := S6.out; have := S7.out; have := S8.out; have := S9.out; omega))
    have Ox0_10 := Lib.hid (Ox0_9.out.beside t' (by have := S1.out; have := S2.out; have := S3.out; have := S4.out; have := S5.out; have := S6.out; have := S7.out; have := S8.out; have := S9.out; omega))
    have Ot0_10 := Lib.hid (Ot0_9.out.beside t' (by have := S1.out; have := S2.out; have := S3.out; have := S4.out; have := S5.out; have := S6.out; have := S7.out; have := S8.out; have := S9.out; omega))
    have Og_10 := Lib.hid o'
    have S10 := Lib.hid t'.size
    clear o' t'
    go_wp2_with fail
    refine (c_heldI1 _ _ _ _ RL.out Og_10.out.reads).mono ?_; rintro e u11 ⟨rfl, x'⟩
    have X11 := Lib.hid x'; have B11 := Lib.hid (B10.out.trans x'); have S11 := Lib.hid x'.size
    have Os0_11 := Lib.hid (Os0_10.out.on x')
    have Ow_11 := Lib.hid (Ow_10.out.on x')
    have Ox0_11 := Lib.hid (Ox0_10.out.on x')
    have Og_11 := Lib.hid (Og_10.out.on x')
    have Ot0_11 := Lib.hid (Ot0_10.out.on x')
    clear x'
    go_wp2_with fail
    refine (c_toI _ _ _ zs0 _ G0.out (H0.out.on B11.out)).mono ?_; rintro e u12 ⟨a', c', rfl, o', x'⟩
    have X12 := Lib.hid x'; have B12 := Lib.hid (B11.out.trans x'); have S12 := Lib.hid x'.size
    have Os0_12 := Lib.hid (Os0_11.out.on x')
    have Ow_12 := Lib.hid (Ow_11.out.on x')
    have Ox0_12 := Lib.hid (Ox0_11.out.on x')
    have Og_12 := Lib.hid (Og_11.out.on x')
    have Ot0_12 := Lib.hid (Ot0_11.out.on x')
    have Oy0_12 := Lib.hid o'
    clear o'
    clear x'
    go_wp2_with fail
    refine (c_impl_OrderByHash _ _ _ zs0 a1 _ (by have := G0.out; unfold maxLen; omega) Oy0_12.out.reads).mono ?_; rintro e u13 ⟨a', c', rfl, o', x'⟩
    have X13 := Lib.hid x'; have B13 := Lib.hid (B12.out.trans x'); have S13 := Lib.hid x'.size
    have Os0_13 := Lib.hid (Os0_12.out.on x')
    have Ow_13 := Lib.hid (Ow_12.out.on x')
    have Ox0_13 := Lib.hid (Ox0_12.out.on x')
    have Og_13 := Lib.hid (Og_12.out.on x')
    have Ot0_13 := Lib.hid (Ot0_12.out.on x')
    have Oy0_13 := Lib.hid (Oy0_12.out.on x')
    have Oh_13 := Lib.hid o'
    clear o'
    clear x'
    go_wp2_with fail
    refine (c_eqI_E _ _ _ _ _ (ordR zs0 a1) _ RL.out Oh_13.out.reads Ow_13.out.reads).mono ?_; rintro e u14 ⟨rfl, x'⟩
    have X14 := Lib.hid x'; have B14 := Lib.hid (B13.out.trans x'); have S14 := Lib.hid x'.size
    have Os0_14 := Lib.hid (Os0_13.out.on x')
    have Ow_14 := Lib.hid (Ow_13.out.on x')
    have Ox0_14 := Lib.hid (Ox0_13.out.on x')
    have Og_14 := Lib.hid (Og_13.out.on x')
    have Ot0_14 := Lib.hid (Ot0_13.out.on x')
    have Oy0_14 := Lib.hid (Oy0_13.out.on x')
    have Oh_14 := Lib.hid (Oh_13.out.on x')
    clear x'
    go_wp2_with fail
    refine (c_heldI1 _ _ _ _ RL.out Og_14.out.reads).mono ?_; rintro e u15 ⟨rfl, x'⟩
    have X15 := Lib.hid x'; have B15 := Lib.hid (B14.out.trans x'); have S15 := Lib.hid x'.size
    have Os0_15 := Lib.hid (Os0_14.out.on x')
    have Ow_15 := Lib.hid (Ow_14.out.on x')
    have Ox0_15 := Lib.hid (Ox0_14.out.on x')
    have Og_15 := Lib.hid (Og_14.out.on x')
    have Ot0_15 := Lib.hid (Ot0_14.out.on x')
    have Oy0_15 := Lib.hid (Oy0_14.out.on x')
    have Oh_15 := Lib.hid (Oh_14.out.on x')
    clear x'
    go_wp2
    go_ret
    exact ⟨rfl, B15.out⟩
end Go.Proofs.Ytmgkbgdbahijnac
