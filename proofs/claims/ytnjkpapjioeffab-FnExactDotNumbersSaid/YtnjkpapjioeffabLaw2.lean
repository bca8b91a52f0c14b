/- The walks of the laws SumNumbers, DotNumbers. -/
import Derived.Test.YtnjkpapjioeffabEqF
namespace Go.Proofs.Ytnjkpapjioeffab
open Go.ChangeShapes Go.WideShapes Go.ChangeAt Go.RowKit Go.Proofs.Ytnjkpapjioeffab.Flo
set_option linter.unusedVariables false
attribute [local go_sem] run_fl_add run_fl_sub run_fl_mul run_fl_quo run_conv run_store_float run_store_complex
theorem c_eqF_any (a a' : Option Addr) (cap cap' len : Nat) (zs : List Nat) (w : World) (hm : len ≤ maxLen) (h : IsF .f32 w a len zs) (h' : IsF .f32 w a' len zs) :
    Calls Try.prog 19 #[.slice a len cap, .slice a' len cap'] w fun e w' => e = .returned (.bool true) ∧ ∃ n, w' = w.drewN n := by
  rcases h with ⟨hz, h0 | ⟨b, off, rfl, hc⟩⟩
  · subst h0
    go_enter Try.func19, Try.ntmps19
    go_wp2
    go_loop [5] (fun i => i = .int .i64 0) (fun i => 0)
    case atStart => rfl
    case round =>
      obtain rfl := hrel
      go_wp2
      go_ret
      exact ⟨rfl, 0, rfl⟩
  · rcases h' with ⟨_, h0 | ⟨b', off', rfl, hc'⟩⟩
    · subst h0
      go_enter Try.func19, Try.ntmps19
      go_wp2
      go_loop [5] (fun i => i = .int .i64 0) (fun i => 0)
      case atStart => rfl
      case round =>
        obtain rfl := hrel
        go_wp2
        go_ret
        exact ⟨rfl, 0, rfl⟩
    · exact c_eqF b off cap b' off' cap' len zs w hm hc hc'
set_option maxHeartbeats 1000000 in
theorem walk_FnExactSumNumbers (a0 : Option Addr) (len0 cap0 : Nat) (z0 : List Nat) (w : World) (w0 : IsFRow .f32 w a0 len0 cap0 z0) :
    Calls Try.prog 6 #[.slice a0 len0 cap0] w fun e w' => e = .returned (.bool true) ∧ Below w.heap.size w w' := by
  have h0 := w0.isF
  have hm : len0 ≤ maxLen := by rcases w0 with ⟨_, rfl, _, _⟩ | ⟨_, _, h1, h2, _⟩ <;> unfold maxLen at * <;> omega
  clear w0
  have H0 := Lib.hid h0
  have hz := h0.1
  subst hz
  clear h0
  by_cases hbig : 1048576 < z0.length
  · have hm' := hm
    unfold maxLen at hm'
    go_enter Try.func6, Try.ntmps6
    go_wp2
    go_ret
    exact ⟨rfl, Below.refl _ _⟩
  · have hS := hm
    unfold maxLen at hS
    by_cases h256 : z0.length ≤ 256
    · go_enter Try.func6, Try.ntmps6
      go_wp2_with fail
      refine (c_toF_E _ _ z0 _ (by omega) H0.out).mono ?_; rintro e w1 ⟨g1, rfl, hF1, hE1⟩
      go_wp2_with fail
      refine (c_spec_SumNumbers_any _ _ _ z0 _ h256 hF1).mono ?_; rintro e w' ⟨r, n, rfl, rfl, hv, hr⟩
      have HV := Lib.hid hv
      clear hv
      go_wp2_with fail
      refine (c_toF_E _ _ z0 _ (by omega) (H0.out.on (hE1.trans (Ext.drewN _ _)))).mono ?_; rintro e w2 ⟨g2, rfl, hF2, hE2⟩
      go_wp2_with fail
      refine (c_impl_SumNumbers_any _ _ _ z0 _ h256 hF2).mono ?_; rintro e w' ⟨r', n', rfl, rfl, hv', hr'⟩
      have HV' := Lib.hid hv'
      clear hv'
      go_wp2_with fail
      refine (c_sameFloat _ _ _ (by rw [fv_wideR, fv_wideR, HV.out, HV'.out])).mono ?_; rintro e w' ⟨rfl, m, rfl⟩
      go_wp2_with fail
      refine (c_toF_E _ _ z0 _ (by omega) (H0.out.on (((hE1.trans (Ext.drewN _ _)).trans hE2).trans (Ext.drewN _ _)))).mono ?_; rintro e w3 ⟨g3, rfl, hF3, hE3⟩
      go_wp2_with fail
      refine (c_eqF_any _ _ _ _ _ z0 _ hm (hF2.on ((Ext.drewN _ _).trans hE3)) hF3).mono ?_; rintro e w' ⟨rfl, m', rfl⟩
      go_wp2
      go_ret
      exact ⟨rfl, ((((hE1.trans (Ext.drewN _ _)).trans hE2).trans (Ext.drewN _ _)).trans hE3).trans (Ext.drewN _ _)⟩
    · go_enter Try.func6, Try.ntmps6
      go_wp2_with fail
      refine (c_toF_E _ _ z0 _ (by omega) H0.out).mono ?_; rintro e w1 ⟨g1, rfl, hF1, hE1⟩
      go_wp2_with fail
      refine (c_spec_SumNumbers_no _ _ _ _ (by omega)).mono ?_; rintro e w' ⟨rfl, rfl⟩
      go_wp2_with fail
      refine (c_toF_E _ _ z0 _ (by omega) (H0.out.on hE1)).mono ?_; rintro e w2 ⟨g2, rfl, hF2, hE2⟩
      go_wp2_with fail
      refine (c_impl_SumNumbers_no _ _ _ _ (by omega)).mono ?_; rintro e w' ⟨rfl, rfl⟩
      go_wp2_with fail
      refine (c_sameFloat _ _ _ (by rw [fv_wideR, fv_wideR])).mono ?_; rintro e w' ⟨rfl, m, rfl⟩
      go_wp2_with fail
      refine (c_toF_E _ _ z0 _ (by omega) (H0.out.on ((hE1.trans hE2).trans (Ext.drewN _ _)))).mono ?_; rintro e w3 ⟨g3, rfl, hF3, hE3⟩
      go_wp2_with fail
      refine (c_eqF_any _ _ _ _ _ z0 _ hm (hF2.on ((Ext.drewN _ _).trans hE3)) hF3).mono ?_; rintro e w' ⟨rfl, m', rfl⟩
      go_wp2
      go_ret
      exact ⟨rfl, (((hE1.trans hE2).trans (Ext.drewN _ _)).trans hE3).trans (Ext.drewN _ _)⟩
end Go.Proofs.Ytnjkpapjioeffab
