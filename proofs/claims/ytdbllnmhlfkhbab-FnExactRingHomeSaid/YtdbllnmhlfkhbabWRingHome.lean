/- The walk of the law FnExactRingHome. -/
import Derived.Test.YtdbllnmhlfkhbabRio
import Derived.WalkLawsBesides
namespace Go.Proofs.Ytdbllnmhlfkhbab
open Go.ChangeShapes Go.WideShapes Go.ChangeAt Go.RowKit
set_option linter.unusedVariables false
set_option maxHeartbeats 2000000 in
theorem walk_FnExactRingHome (a0 : Int) (a1 : Int) (a2 : Option Addr) (len2 cap2 : Nat) (z2 : List Int) (w : World) (w0 : (Lit.int .i64 a0).wf = true) (w1 : (Lit.int .i64 a1).wf = true) (w2 : IsRow .i64 w a2 len2 cap2 z2) :
    Calls Try.prog 9 #[.int .i64 a0, .int .i64 a1, .slice a2 len2 cap2] w fun e w' => e = .returned (.bool true) ∧ Below w.heap.size w w' := by
  clear w0
  clear w1
  obtain ⟨h2, m2⟩ := w2.rd
  obtain ⟨zs2, hz2⟩ : ∃ zs, z2.take len2 = zs := ⟨_, rfl⟩
  rw [hz2] at h2
  have H2 := Lib.hid h2
  clear hz2 h2 w2
  unfold maxLen at m2
  by_cases g2 : 1048576 < len2
  · go_enter Try.func9, Try.ntmps9
    go_wp2
    go_ret
    exact ⟨rfl, Below.refl _ _⟩
  · have G2 := Lib.hid (show len2 ≤ 1048576 by omega)
    have B0 := Lib.hid (Ext.refl w)
    go_enter Try.func9, Try.ntmps9
    go_wp2_with fail
    refine (c_toI _ _ _ zs2 _ G2.out (H2.out.on B0.out)).mono ?_; rintro e u1 ⟨a', c', rfl, o', x'⟩
    have X1 := Lib.hid x'; have B1 := Lib.hid (B0.out.trans x'); have S1 := Lib.hid x'.size
    have Os2_1 := Lib.hid o'
    clear o'
    clear x'
    go_wp2_with fail
    refine (c_spec_RingHome a0 a1 _ _ _ zs2 _ (by have := G2.out; unfold maxLen; omega) Os2_1.out.reads).mono ?_; rintro e u2 ⟨rfl, x'⟩
    have X2 := Lib.hid x'; have B2 := Lib.hid (B1.out.trans x'); have S2 := Lib.hid x'.size
    have Os2_2 := Lib.hid (Os2_1.out.on x')
    clear x'
    go_wp2_with fail
    refine (c_toI _ _ _ zs2 _ G2.out (H2.out.on B2.out)).mono ?_; rintro e u3 ⟨a', c', rfl, o', x'⟩
    have X3 := Lib.hid x'; have B3 := Lib.hid (B2.out.trans x'); have S3 := Lib.hid x'.size
    have Os2_3 := Lib.hid (Os2_2.out.on x')
    have Ox2_3 := Lib.hid o'
    clear o'
    clear x'
    go_wp2_with fail
    refine (c_impl_RingHome a0 a1 _ _ _ zs2 _ (by have := G2.out; unfold maxLen; omega) Ox2_3.out.reads).mono ?_; rintro e u4 ⟨rfl, x'⟩
    have X4 := Lib.hid x'; have B4 := Lib.hid (B3.out.trans x'); have S4 := Lib.hid x'.size
    have Os2_4 := Lib.hid (Os2_3.out.on x')
    have Ox2_4 := Lib.hid (Ox2_3.out.on x')
    clear x'
    go_wp2_with fail
    refine (c_toI _ _ _ zs2 _ G2.out (H2.out.on B4.out)).mono ?_; rintro e u5 ⟨a', c', rfl, o', x'⟩
    have X5 := Lib.hid x'; have B5 := Lib.hid (B4.out.trans x'); have S5 := Lib.hid x'.size
    have Os2_5 := Lib.hid (Os2_4.out.on x')
    have Ox2_5 := Lib.hid (Ox2_4.out.on x')
    have Ot2_5 := Lib.hid o'
    clear o'
    clear x'
    go_wp2_with fail
    refine (c_eqI_E _ _ _ _ _ (zs2) _ G2.out Ox2_5.out.reads Ot2_5.out.reads).mono ?_; rintro e u6 ⟨rfl, x'⟩
    have X6 := Lib.hid x'; have B6 := Lib.hid (B5.out.trans x'); have S6 := Lib.hid x'.size
    have Os2_6 := Lib.hid (Os2_5.out.on x')
    have Ox2_6 := Lib.hid (Ox2_5.out.on x')
    have Ot2_6 := Lib.hid (Ot2_5.out.on x')
    clear x'
    go_wp2
    go_ret
    exact ⟨rfl, B6.out⟩
end Go.Proofs.Ytdbllnmhlfkhbab
