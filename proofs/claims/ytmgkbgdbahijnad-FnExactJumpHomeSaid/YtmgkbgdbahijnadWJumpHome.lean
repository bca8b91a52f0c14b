/- The walk of the law FnExactJumpHome. -/
import Derived.Test.YtmgkbgdbahijnadJms
import Derived.Deep.RegionHeld3
import Derived.Deep.DeepCutAuto
import Derived.Deep.LoopGhost
import Derived.WalkLawsBesides
namespace Go.Proofs.Ytmgkbgdbahijnad
open Go.ChangeShapes Go.WideShapes Go.ChangeAt Go.RowKit
set_option linter.unusedVariables false
set_option maxHeartbeats 8000000 in
theorem walk_FnExactJumpHome (a0 : Int) (a1 : Int) (w : World) (w0 : (Lit.int .i64 a0).wf = true) (w1 : (Lit.int .i64 a1).wf = true) :
    Calls Try.prog 14 #[.int .i64 a0, .int .i64 a1] w fun e w' => e = .returned (.bool true) ∧ Below w.heap.size w w' := by
  clear w0
  clear w1
  have B0 := Lib.hid (show Ext w w from Ext.refl w)
  obtain ⟨rv0, rb1, hR⟩ : ∃ rv0 rb1, jumpR a0 a1 = ((rv0 : Int), (rb1 : Bool)) := ⟨_, _, rfl⟩
  have HV := Lib.hid hR
  clear hR
  go_enter Try.func14, Try.ntmps14
  go_wp2_with fail
  refine (c_spec_JumpHome a0 a1 _ HV.out ).mono ?_; rintro e u1 ⟨rfl, x'⟩
  have B1 := Lib.hid (B0.out.trans x')
  have SZ1 := Lib.hid (show w.heap.size ≤ u1.heap.size from Nat.le_trans (by first | omega | (simp; done) | (simp; omega)) x'.size); clear x'
  go_wp2_with fail
  refine (c_impl_JumpHome a0 a1 _ HV.out ).mono ?_; rintro e u2 ⟨rfl, x'⟩
  have B2 := Lib.hid (B1.out.trans x')
  have SZ2 := Lib.hid (show u1.heap.size ≤ u2.heap.size from Nat.le_trans (by first | omega | (simp; done) | (simp; omega)) x'.size); clear x'
  go_wp2
  go_ret
  exact ⟨rfl, B2.out⟩
end Go.Proofs.Ytmgkbgdbahijnad
