/- The walks of the laws SameNumber, IsFinite, BitsOf, FromBits: each returns true and writes nothing that was there. -/
import Derived.Test.YtnjkpapjioeffaaCon
import Derived.Below
import Derived.WalkSmall
namespace Go.Proofs.Ytnjkpapjioeffaa
open Go.ChangeShapes Go.WideShapes Go.ChangeAt Go.RowKit Go.Proofs.Ytnjkpapjioeffaa.Flo
set_option linter.unusedVariables false
attribute [local go_sem] run_fl_add run_fl_sub run_fl_mul run_fl_quo run_conv
theorem wf32 {a : Nat} (h : (Lit.float .f32 a).wf = true) : a < 4294967296 := lt_of_wf h
theorem wf64 {a : Nat} (h : (Lit.float .f64 a).wf = true) : a < 18446744073709551616 := lt_of_wf h
theorem wbelow (w : World) (n : Nat) : Below w.heap.size w (w.drewN n) := below_drewN (Below.refl _ _) n
theorem walk_FnExactSameNumber (a0 a1 : Nat) (w : World) (w0 : (Lit.float .f32 a0).wf = true) (w1 : (Lit.float .f32 a1).wf = true) :
    Calls Try.prog 3 #[.float .f32 a0, .float .f32 a1] w fun e w' => e = .returned (.bool true) ∧ Below w.heap.size w w' := by
  have h0 := wf32 w0
  have h1 := wf32 w1
  clear w0 w1
  go_enter Try.func3, Try.ntmps3
  go_wp2_with (first | (go_at_call 8; refine (c_spec_SameNumber _ _ _ h0 h1).mono ?_; rintro e w' ⟨rfl, n, rfl⟩) | (go_at_call 9; refine (c_impl_SameNumber _ _ _ h0 h1).mono ?_; rintro e w' ⟨rfl, n, rfl⟩))
  go_ret
  exact ⟨rfl, wbelow _ _⟩
theorem walk_FnExactIsFinite (a0 : Nat) (w : World) (w0 : (Lit.float .f32 a0).wf = true) :
    Calls Try.prog 4 #[.float .f32 a0] w fun e w' => e = .returned (.bool true) ∧ Below w.heap.size w w' := by
  have h0 := wf32 w0
  clear w0
  go_enter Try.func4, Try.ntmps4
  go_wp2_with (first | (go_at_call 10; refine (c_spec_IsFinite _ _).mono ?_; rintro e w' ⟨rfl, n, rfl⟩) | (go_at_call 11; refine (c_impl_IsFinite _ _ h0).mono ?_; rintro e w' ⟨rfl, n, rfl⟩))
  go_ret
  exact ⟨rfl, wbelow _ _⟩
theorem walk_FnExactBitsOf (a0 : Nat) (w : World) (w0 : (Lit.float .f32 a0).wf = true) :
    Calls Try.prog 5 #[.float .f32 a0] w fun e w' => e = .returned (.bool true) ∧ Below w.heap.size w w' := by
  have h0 := wf32 w0
  clear w0
  go_enter Try.func5, Try.ntmps5
  go_wp2_with (first | (go_at_call 12; refine (c_spec_BitsOf _ _ h0).mono ?_; rintro e w' ⟨rfl, rfl⟩) | (go_at_call 13; refine (c_impl_BitsOf _ _ h0).mono ?_; rintro e w' ⟨rfl, rfl⟩))
  go_ret
  exact ⟨rfl, Below.refl _ _⟩
theorem walk_FnExactFromBits (a0 : Int) (w : World) (w0 : (Lit.int .i64 a0).wf = true) :
    Calls Try.prog 6 #[.int .i64 a0] w fun e w' => e = .returned (.bool true) ∧ Below w.heap.size w w' := by
  go_enter Try.func6, Try.ntmps6
  go_wp2_with (first | (go_at_call 14; refine (c_spec_FromBits _ _).mono ?_; rintro e w' ⟨rfl, rfl⟩) | (go_at_call 15; refine (c_impl_FromBits _ _).mono ?_; rintro e w' ⟨rfl, rfl⟩) | (go_at_call 16; refine (c_sameFloat _ _ _ (by rw [fv_wideR, fv_wideR])).mono ?_; rintro e w' ⟨rfl, n, rfl⟩))
  go_ret
  exact ⟨rfl, wbelow _ _⟩
end Go.Proofs.Ytnjkpapjioeffaa
