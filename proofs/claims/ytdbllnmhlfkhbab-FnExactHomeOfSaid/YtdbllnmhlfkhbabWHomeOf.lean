/- The walk of the law FnExactHomeOf. -/
import Derived.Test.YtdbllnmhlfkhbabHom
import Derived.WalkLawsBesides
namespace Go.Proofs.Ytdbllnmhlfkhbab
open Go.ChangeShapes Go.WideShapes Go.ChangeAt Go.RowKit
set_option linter.unusedVariables false
set_option maxHeartbeats 2000000 in
theorem walk_FnExactHomeOf (a0 : Int) (a1 : Option Addr) (len1 cap1 : Nat) (z1 : List Int) (w : World) (w0 : (Lit.int .i64 a0).wf = true) (w1 : IsRow .i64 w a1 len1 cap1 z1) :
    Calls Try.prog 8 #[.int .i64 a0, .slice a1 len1 cap1] w fun e w' => e = .returned (.bool true) ∧ Below w.heap.size w w' := by
  clear w0
  obtain ⟨h1, m1⟩ := w1.rd
  obtain ⟨zs1, hz1⟩ : ∃ zs, z1.take len1 = zs := ⟨_, rfl⟩
  rw [hz1] at h1
  have H1 := Lib.hid h1
  clear hz1 h1 w1
  unfold maxLen at m1
  by_cases g1 : 1048576 < len1
  · go_enter Try.func8, Try.ntmps8
    go_wp2
    go_ret
    exact ⟨rfl, Below.refl _ _⟩
  · have G1 := Lib.hid (show len1 ≤ 1048576 by omega)
    have B0 := Lib.hid (Ext.refl w)
    go_enter Try.func8, Try.ntmps8
    go_wp2_with fail
    refine (c_toI _ _ _ zs1 _ G1.out (H1.out.on B0.out)).mono ?_; rintro e u1 ⟨a', c', rfl, o', x'⟩
    have X1 := Lib.hid x'; have B1 := Lib.hid (B0.out.trans x'); have S1 := Lib.hid x'.size
    have Os1_1 := Lib.hid o'
    clear o'
    clear x'
    go_wp2_with fail
    refine (c_spec_HomeOf a0 _ _ _ zs1 _ (by have := G1.out; unfold maxLen; omega) Os1_1.out.reads).mono ?_; rintro e u2 ⟨rfl, x'⟩
    have X2 := Lib.hid x'; have B2 := Lib.hid (B1.out.trans x'); have S2 := Lib.hid x'.size
    have Os1_2 := Lib.hid (Os1_1.out.on x')
    clear x'
    go_wp2_with fail
    refine (c_toI _ _ _ zs1 _ G1.out (H1.out.on B2.out)).mono ?_; rintro e u3 ⟨a', c', rfl, o', x'⟩
    have X3 := Lib.hid x'; have B3 := Lib.hid (B2.out.trans x'); have S3 := Lib.hid x'.size
    have Os1_3 := Lib.hid (Os1_2.out.on x')
    have Ox1_3 := Lib.hid o'
    clear o'
    clear x'
    go_wp2_with fail
    refine (c_impl_HomeOf a0 _ _ _ zs1 _ (by have := G1.out; unfold maxLen; omega) Ox1_3.out.reads).mono ?_; rintro e u4 ⟨rfl, x'⟩
    have X4 := Lib.hid x'; have B4 := Lib.hid (B3.out.trans x'); have S4 := Lib.hid x'.size
    have Os1_4 := Lib.hid (Os1_3.out.on x')
    have Ox1_4 := Lib.hid (Ox1_3.out.on x')
    clear x'
    go_wp2_with fail
    refine (c_toI _ _ _ zs1 _ G1.out (H1.out.on B4.out)).mono ?_; rintro e u5 ⟨a', c', rfl, o', x'⟩
    have X5 := Lib.hid x'; have B5 := Lib.hid (B4.out.trans x'); have S5 := Lib.hid x'.size
    have Os1_5 := Lib.hid (Os1_4.out.on x')
    have Ox1_5 := Lib.hid (Ox1_4.out.on x')
    have Ot1_5 := Lib.hid o'
    clear o'
    clear x'
    go_wp2_with fail
    refine (c_eqI_E _ _ _ _ _ (zs1) _ G1.out Ox1_5.out.reads Ot1_5.out.reads).mono ?_; rintro e u6 ⟨rfl, x'⟩
    have X6 := Lib.hid x'; have B6 := Lib.hid (B5.out.trans x'); have S6 := Lib.hid x'.size
    have Os1_6 := Lib.hid (Os1_5.out.on x')
    have Ox1_6 := Lib.hid (Ox1_5.out.on x')
    have Ot1_6 := Lib.hid (Ot1_5.out.on x')
    clear x'
    go_wp2
    go_ret
    exact ⟨rfl, B6.out⟩
end Go.Proofs.Ytdbllnmhlfkhbab
