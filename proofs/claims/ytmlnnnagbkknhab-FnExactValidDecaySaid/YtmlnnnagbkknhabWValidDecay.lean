/- The walk of the law FnExactValidDecay. -/
import Derived.Test.YtmlnnnagbkknhabDca
import Derived.Test.YtmlnnnagbkknhabAgf
import Derived.WalkLawsBesides
namespace Go.Proofs.Ytmlnnnagbkknhab
open Go.ChangeShapes Go.WideShapes Go.ChangeAt Go.RowKit Go.Proofs.Ytmlnnnagbkknhab.Flo
set_option linter.unusedVariables false
set_option maxHeartbeats 1000000 in
theorem walk_FnExactValidDecay (a0 a1 : Nat) (a2 : Int) (w : World) (w0 : (Lit.float .f32 a0).wf = true) (w1 : (Lit.float .f32 a1).wf = true) (w2 : (Lit.int .i64 a2).wf = true) :
    Calls Try.prog 3 #[.agg #[.float .f32 a0, .float .f32 a1, .int .i64 a2]] w fun e w' => e = .returned (.bool true) ∧ Below w.heap.size w w' := by
  have W0 := Lib.hid (show a0 < 4294967296 from lt_of_wf w0)
  have W1 := Lib.hid (show a1 < 4294967296 from lt_of_wf w1)
  obtain ⟨r, hr⟩ : ∃ r, decB a0 a1 a2 = r := ⟨_, rfl⟩
  have HR := Lib.hid hr
  have BA := Lib.hid (Box.alloc w #[.float .f32 a0, .float .f32 a1, .int .i64 a2] 24)
  have X0 := Lib.hid (Ext.alloc w (.cells #[.float .f32 a0, .float .f32 a1, .int .i64 a2] 24))
  obtain ⟨p0, p1, p2⟩ := BA.out.three
  have hrr : (r != r) = false := by simp
  clear hr w0 w1 w2
  go_enter Try.func3, Try.ntmps3
  go_wp2_with fail
  clear p0 p1 p2
  refine (c_toD a0 a1 a2 _).mono ?_; rintro e u1 ⟨rfl, x1⟩
  go_wp2_with fail
  refine (c_spec_ValidDecay a0 a1 a2 _ HR.out).mono ?_; rintro e u2 ⟨rfl, x2⟩
  have X2 := Lib.hid (x1.trans x2)
  obtain ⟨p0, p1, p2⟩ := (BA.out.on X2.out).three
  clear x1 x2
  go_wp2_with fail
  clear p0 p1 p2
  refine (c_toD a0 a1 a2 _).mono ?_; rintro e u3 ⟨rfl, x3⟩
  go_wp2_with fail
  refine (c_impl_ValidDecay a0 a1 a2 _ HR.out W0.out W1.out).mono ?_; rintro e u4 ⟨rfl, x4⟩
  have X4 := Lib.hid (X0.out.trans (X2.out.trans (x3.trans x4)))
  clear x3 x4
  go_wp2
  go_ret
  exact ⟨rfl, X4.out⟩
end Go.Proofs.Ytmlnnnagbkknhab
