/- The walk of the law FnExactListText. -/
import Derived.Test.YtdbllnmhlfkhbacDoorLsu
import Derived.WalkLawsBesides
namespace Go.Proofs.YtdbllnmhlfkhbacDoor
open Go.ChangeShapes Go.WideShapes Go.ChangeAt Go.RowKit
set_option linter.unusedVariables false
set_option maxHeartbeats 2000000 in
theorem walk_FnExactListText (a0 : Option Addr) (len0 cap0 : Nat) (z0 : List Int) (w : World) (w0 : IsRow .i64 w a0 len0 cap0 z0) (hT : TabP w) :
    Calls Tryd.prog 7 #[.slice a0 len0 cap0] w fun e w' => e = .returned (.bool true) ∧ Below w.heap.size w w' := by
  have HT := Lib.hid hT
  clear hT
  obtain ⟨h0, m0⟩ := w0.rd
  obtain ⟨zs0, hz0⟩ : ∃ zs, z0.take len0 = zs := ⟨_, rfl⟩
  rw [hz0] at h0
  have H0 := Lib.hid h0
  clear hz0 h0 w0
  unfold maxLen at m0
  by_cases g0 : 1048576 < len0
  · go_enter Tryd.func7, Tryd.ntmps7
    go_wp2
    go_ret
    exact ⟨rfl, Below.refl _ _⟩
  · have G0 := Lib.hid (show len0 ≤ 1048576 by omega)
    have B0 := Lib.hid (Ext.refl w)
    go_enter Tryd.func7, Tryd.ntmps7
    go_wp2_with fail
    refine (c_toI _ _ _ zs0 _ G0.out (H0.out.on B0.out)).mono ?_; rintro e u1 ⟨a', c', rfl, o', x'⟩
    have X1 := Lib.hid x'; have B1 := Lib.hid (B0.out.trans x'); have S1 := Lib.hid x'.size
    have Os0_1 := Lib.hid o'
    clear o'
    clear x'
    go_wp2_with fail
    refine (c_spec_ListText _ _ _ zs0 _ (by have := G0.out; unfold maxLen; omega) Os0_1.out.reads).mono ?_; rintro e u2 ⟨rfl, x'⟩
    have X2 := Lib.hid x'; have B2 := Lib.hid (B1.out.trans x'); have S2 := Lib.hid x'.size
    have Os0_2 := Lib.hid (Os0_1.out.on x')
    clear x'
    go_wp2_with fail
    refine (c_toI _ _ _ zs0 _ G0.out (H0.out.on B2.out)).mono ?_; rintro e u3 ⟨a', c', rfl, o', x'⟩
    have X3 := Lib.hid x'; have B3 := Lib.hid (B2.out.trans x'); have S3 := Lib.hid x'.size
    have Os0_3 := Lib.hid (Os0_2.out.on x')
    have Ox0_3 := Lib.hid o'
    clear o'
    clear x'
    go_wp2_with fail
    refine (c_impl_ListText _ _ _ zs0 _ (by have := G0.out; unfold maxLen; omega) (HT.out.on B3.out) Ox0_3.out.reads).mono ?_; rintro e u4 ⟨rfl, x'⟩
    have X4 := Lib.hid x'; have B4 := Lib.hid (B3.out.trans x'); have S4 := Lib.hid x'.size
    have Os0_4 := Lib.hid (Os0_3.out.on x')
    have Ox0_4 := Lib.hid (Ox0_3.out.on x')
    clear x'
    go_wp2_with fail
    refine (c_toI _ _ _ zs0 _ G0.out (H0.out.on B4.out)).mono ?_; rintro e u5 ⟨a', c', rfl, o', x'⟩
    have X5 := Lib.hid x'; have B5 := Lib.hid (B4.out.trans x'); have S5 := Lib.hid x'.size
    have Os0_5 := Lib.hid (Os0_4.out.on x')
    have Ox0_5 := Lib.hid (Ox0_4.out.on x')
    have Ot0_5 := Lib.hid o'
    clear o'
    clear x'
    go_wp2_with fail
    refine (c_eqI_E _ _ _ _ _ (zs0) _ G0.out Ox0_5.out.reads Ot0_5.out.reads).mono ?_; rintro e u6 ⟨rfl, x'⟩
    have X6 := Lib.hid x'; have B6 := Lib.hid (B5.out.trans x'); have S6 := Lib.hid x'.size
    have Os0_6 := Lib.hid (Os0_5.out.on x')
    have Ox0_6 := Lib.hid (Ox0_5.out.on x')
    have Ot0_6 := Lib.hid (Ot0_5.out.on x')
    clear x'
    go_wp2
    go_ret
    exact ⟨rfl, B6.out⟩
end Go.Proofs.YtdbllnmhlfkhbacDoor
