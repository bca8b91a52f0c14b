/- The walk of the law FnExactReadList. -/
import Derived.Test.YtgejfeedcphfkaaDoorRla
import Derived.WalkLawsBesides
namespace Go.Proofs.YtgejfeedcphfkaaDoor
open Go.ChangeShapes Go.WideShapes Go.ChangeAt Go.RowKit
set_option linter.unusedVariables false
set_option maxHeartbeats 2000000 in
theorem walk_FnExactReadList (a0 : ByteArray) (w : World) (w0 : a0.size ≤ maxLen) (hT : FactL w) :
    Calls Tryd.prog 9 #[.string a0] w fun e w' => e = .returned (.bool true) ∧ Below w.heap.size w w' := by
  have HT := Lib.hid hT
  clear hT
  unfold maxLen at w0
  by_cases hl : 1048576 < a0.size
  · go_enter Tryd.func9, Tryd.ntmps9
    go_wp2
    go_ret
    exact ⟨rfl, Below.refl _ _⟩
  have hle := rlR_le a0
  obtain ⟨R, b, hR⟩ : ∃ R b, rlR a0 = (R, b) := ⟨_, _, rfl⟩
  rw [hR] at hle
  have RL := Lib.hid (show R.length ≤ 1048576 from Nat.le_trans hle (by decide))
  have HV := Lib.hid hR
  have HS := Lib.hid (show a0.size ≤ 1048576 by omega)
  have B0 := Lib.hid (Ext.refl w)
  have hlI : ¬ (1048576 : Int) < (a0.size : Int) := by omega
  clear hR hle hl w0
  go_enter Tryd.func9, Tryd.ntmps9
  go_wp2_with fail
  refine (c_spec_ReadList a0 _ HV.out HS.out).mono ?_; rintro e u1 ⟨a', c', rfl, o', x'⟩
  have X1 := Lib.hid x'; have B1 := Lib.hid (B0.out.trans x'); have S1 := Lib.hid x'.size
  have Ow_1 := Lib.hid o'
  clear o'
  clear x'
  go_wp2_with fail
  refine (c_impl_ReadList a0 _ HV.out HS.out (HT.out.on B1.out)).mono ?_; rintro e u2 ⟨a', c', rfl, o', x'⟩
  have X2 := Lib.hid x'; have B2 := Lib.hid (B1.out.trans x'); have S2 := Lib.hid x'.size
  have Ow_2 := Lib.hid (Ow_1.out.on x')
  have Og_2 := Lib.hid o'
  clear o'
  clear x'
  go_wp2_with fail
  refine (c_eqI_E _ _ _ _ _ R _ RL.out Og_2.out.reads Ow_2.out.reads).mono ?_; rintro e u3 ⟨rfl, x'⟩
  have X3 := Lib.hid x'; have B3 := Lib.hid (B2.out.trans x'); have S3 := Lib.hid x'.size
  have Ow_3 := Lib.hid (Ow_2.out.on x')
  have Og_3 := Lib.hid (Og_2.out.on x')
  clear x'
  go_wp2_with fail
  refine (c_markI1 (u1.heap.size) (u2.heap.size) _ _ _ _ _ RL.out Og_3.out).mono ?_; rintro e u4 ⟨rfl, o', t'⟩
  have B4 := Lib.hid (Touch.ext B3.out t' (by have := S1.out; have := S2.out; have := S3.out; omega))
  have Ow_4 := Lib.hid (Ow_3.out.beside t' (by have := S1.out; have := S2.out; have := S3.out; omega))
  have Og_4 := Lib.hid o'
  have S4 := Lib.hid t'.size
  clear o' t'
  go_wp2_with fail
  refine (c_heldI1 _ _ _ _ RL.out Og_4.out.reads).mono ?_; rintro e u5 ⟨rfl, x'⟩
  have X5 := Lib.hid x'; have B5 := Lib.hid (B4.out.trans x'); have S5 := Lib.hid x'.size
  have Ow_5 := Lib.hid (Ow_4.out.on x')
  have Og_5 := Lib.hid (Og_4.out.on x')
  clear x'
  go_wp2_with fail
  refine (c_impl_ReadList a0 _ HV.out HS.out (HT.out.on B5.out)).mono ?_; rintro e u6 ⟨a', c', rfl, o', x'⟩
  have X6 := Lib.hid x'; have B6 := Lib.hid (B5.out.trans x'); have S6 := Lib.hid x'.size
  have Ow_6 := Lib.hid (Ow_5.out.on x')
  have Og_6 := Lib.hid (Og_5.out.on x')
  have Oh_6 := Lib.hid o'
  clear o'
  clear x'
  go_wp2_with fail
  refine (c_eqI_E _ _ _ _ _ R _ RL.out Oh_6.out.reads Ow_6.out.reads).mono ?_; rintro e u7 ⟨rfl, x'⟩
  have X7 := Lib.hid x'; have B7 := Lib.hid (B6.out.trans x'); have S7 := Lib.hid x'.size
  have Ow_7 := Lib.hid (Ow_6.out.on x')
  have Og_7 := Lib.hid (Og_6.out.on x')
  have Oh_7 := Lib.hid (Oh_6.out.on x')
  clear x'
  go_wp2_with fail
  refine (c_heldI1 _ _ _ _ RL.out Og_7.out.reads).mono ?_; rintro e u8 ⟨rfl, x'⟩
  have X8 := Lib.hid x'; have B8 := Lib.hid (B7.out.trans x'); have S8 := Lib.hid x'.size
  have Ow_8 := Lib.hid (Ow_7.out.on x')
  have Og_8 := Lib.hid (Og_7.out.on x')
  have Oh_8 := Lib.hid (Oh_7.out.on x')
  clear x'
  go_wp2
  go_ret
  exact ⟨rfl, B8.out⟩
end Go.Proofs.YtgejfeedcphfkaaDoor
