/- RootNumber: what both functions answer; the law's walk. -/
import Derived.Test.YtnjkpapjioeffabCon
import Derived.Test.YtnjkpapjioeffabFlb
import Derived.Test.YtnjkpapjioeffabLaw1
namespace Go.Proofs.Ytnjkpapjioeffab
open Go.ChangeShapes Go.WideShapes Go.ChangeAt Go.RowKit Go.Proofs.Ytnjkpapjioeffab.Flo
set_option linter.unusedVariables false
attribute [local go_sem] run_fl_add run_fl_sub run_fl_mul run_fl_quo run_conv run_store_float run_store_complex ext_sqrt
theorem fv_root (w w' w'' : World) (x : Nat) : fv .f32 (convR w'' .f64 (sqR w' (convR w .f32 x .f64)) .f32) = slim (fsq (wide (fv .f32 x))) := by
  have h := root_ok x
  rw [fv_slimR, fv_sqR, fv_wideR]
  rw [fv_sqR, fv_wideR]; exact h
theorem c_impl_RootNumber (x : Nat) (w : World) : Calls Try.prog 10 #[.float .f32 x] w fun e w' => ∃ r n, e = .returned (.float .f32 r) ∧ w' = w.drewN n ∧ fv .f32 r = slim (fsq (wide (fv .f32 x))) := by
  go_enter Try.func10, Try.ntmps10
  go_wp2
  go_ret
  exact ⟨_, _, rfl, rfl, fv_root _ _ _ x⟩
theorem c_spec_RootNumber (x : Nat) (w : World) : Calls Try.prog 9 #[.float .f32 x] w fun e w' => ∃ r n, e = .returned (.float .f32 r) ∧ w' = w.drewN n ∧ fv .f32 r = slim (fsq (wide (fv .f32 x))) := by
  go_enter Try.func9, Try.ntmps9
  go_wp2
  go_ret
  exact ⟨_, _, rfl, rfl, fv_root _ _ _ x⟩
theorem walk_FnExactRootNumber (a0 : Nat) (w : World) (w0 : (Lit.float .f32 a0).wf = true) :
    Calls Try.prog 3 #[.float .f32 a0] w fun e w' => e = .returned (.bool true) ∧ Below w.heap.size w w' := by
  clear w0
  go_enter Try.func3, Try.ntmps3
  go_wp2_with fail
  refine (c_spec_RootNumber _ _).mono ?_; rintro e w' ⟨r, n, rfl, rfl, hv⟩
  have HV := Lib.hid hv
  clear hv
  go_wp2_with fail
  refine (c_impl_RootNumber _ _).mono ?_; rintro e w' ⟨r', n', rfl, rfl, hv'⟩
  have HV' := Lib.hid hv'
  clear hv'
  go_wp2_with fail
  refine (c_sameFloat _ _ _ (by rw [fv_wideR, fv_wideR, HV.out, HV'.out])).mono ?_; rintro e w' ⟨rfl, m, rfl⟩
  go_wp2
  go_ret
  exact ⟨rfl, wbelow _ _⟩
end Go.Proofs.Ytnjkpapjioeffab
