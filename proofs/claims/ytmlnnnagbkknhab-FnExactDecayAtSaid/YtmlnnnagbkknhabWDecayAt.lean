/- The walk of the law FnExactDecayAt. -/
import Derived.Test.YtmlnnnagbkknhabDcd
import Derived.Test.YtmlnnnagbkknhabAgf
import Derived.WalkLawsBesides
namespace Go.Proofs.Ytmlnnnagbkknhab
open Go.ChangeShapes Go.WideShapes Go.ChangeAt Go.RowKit Go.Proofs.Ytmlnnnagbkknhab.Flo
set_option linter.unusedVariables false
attribute [local go_sem] run_store_float
set_option maxHeartbeats 4000000 in
theorem walk_FnExactDecayAt (a0 a1 : Nat) (a2 : Int) (t : Int) (w : World) (w0 : (Lit.float .f32 a0).wf = true) (w1 : (Lit.float .f32 a1).wf = true) (w2 : (Lit.int .i64 a2).wf = true) (w3 : (Lit.int .i64 t).wf = true) :
    Calls Try.prog 5 #[.agg #[.float .f32 a0, .float .f32 a1, .int .i64 a2], .int .i64 t] w fun e w' => e = .returned (.bool true) ∧ Below w.heap.size w w' := by
  obtain ⟨v, b, hf, cs, ci⟩ := at_both a0 a1 a2 t (show a0 < 4294967296 from lt_of_wf w0) (show a1 < 4294967296 from lt_of_wf w1)
  obtain ⟨y, ey⟩ := fin_wide hf
  have hch : ∀ wx : World, (convert 22 34 (.float .f32 v)).run Try.prog wx = .ok (.float .f64 y) wx := fun wx => run_convert_float_float wx _ _ _ _ _ _ (by kernel_rfl) (by kernel_rfl) ey
  have CS := Lib.hid cs
  have CI := Lib.hid ci
  have BA := Lib.hid (Box.alloc w #[.float .f32 a0, .float .f32 a1, .int .i64 a2] 24)
  have X0 := Lib.hid (Ext.alloc w (.cells #[.float .f32 a0, .float .f32 a1, .int .i64 a2] 24))
  obtain ⟨p0, p1, p2⟩ := BA.out.three
  have hbb : (b != b) = false := by simp
  have hb2 : (b == b) = true := by simp
  clear w0 w1 w2 w3 ey cs ci hf
  go_enter Try.func5, Try.ntmps5
  go_wp2_with fail
  clear p0 p1 p2
  refine (c_toD a0 a1 a2 _).mono ?_; rintro e u1 ⟨rfl, x1⟩
  go_wp2_with fail
  refine (CS.out _).mono ?_; rintro e u2 ⟨rfl, x2⟩
  have X2 := Lib.hid (x1.trans x2)
  obtain ⟨p0, p1, p2⟩ := (BA.out.on X2.out).three
  clear x1 x2
  go_wp2_with fail
  clear p0 p1 p2
  refine (c_toD a0 a1 a2 _).mono ?_; rintro e u3 ⟨rfl, x3⟩
  go_wp2_with fail
  refine (CI.out _).mono ?_; rintro e u4 ⟨rfl, x4⟩
  have X4 := Lib.hid (X0.out.trans (X2.out.trans (x3.trans x4)))
  clear x3 x4
  go_wp2_with fail
  refine (c_sameFloat y y _ rfl).mono ?_; rintro e w1 ⟨rfl, q1, rfl⟩
  go_wp2
  go_ret
  exact ⟨rfl, X4.out.stepN _⟩
end Go.Proofs.Ytmlnnnagbkknhab
