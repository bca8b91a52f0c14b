/- The walk of the law DotNumbers. -/
import Derived.Test.YtnjkpapjioeffabDot
import Derived.Test.YtnjkpapjioeffabLaw2
namespace Go.Proofs.Ytnjkpapjioeffab
open Go.ChangeShapes Go.WideShapes Go.ChangeAt Go.RowKit Go.Proofs.Ytnjkpapjioeffab.Flo
set_option linter.unusedVariables false
attribute [local go_sem] run_fl_add run_fl_sub run_fl_mul run_fl_quo run_conv run_store_float run_store_complex
theorem isFRow_le {k : FloatKind} {w : World} {a : Option Addr} {len cap : Nat} {zs : List Nat} (h : IsFRow k w a len cap zs) : len ≤ maxLen := by
  rcases h with ⟨_, rfl, _, _⟩ | ⟨_, _, h1, h2, _⟩
  · exact Nat.zero_le _
  · exact Nat.le_trans h1 h2
set_option maxHeartbeats 1000000 in
theorem walk_FnExactDotNumbers (a0 : Option Addr) (len0 cap0 : Nat) (z0 : List Nat) (a1 : Option Addr) (len1 cap1 : Nat) (z1 : List Nat) (w : World) (w0 : IsFRow .f32 w a0 len0 cap0 z0) (w1 : IsFRow .f32 w a1 len1 cap1 z1) :
    Calls Try.prog 7 #[.slice a0 len0 cap0, .slice a1 len1 cap1] w fun e w' => e = .returned (.bool true) ∧ Below w.heap.size w w' := by
  have h0 := w0.isF
  have h1 := w1.isF
  have hm0 := isFRow_le w0
  have hm1 := isFRow_le w1
  clear w0 w1
  have H0 := Lib.hid h0
  have H1 := Lib.hid h1
  have hz := h0.1
  have hz' := h1.1
  subst hz
  subst hz'
  clear h0 h1
  have hS0 := hm0
  have hS1 := hm1
  unfold maxLen at hS0 hS1
  by_cases hbig : 1048576 < z0.length
  · go_enter Try.func7, Try.ntmps7
    go_wp2
    go_ret
    exact ⟨rfl, Below.refl _ _⟩
  by_cases hbig1 : 1048576 < z1.length
  · go_enter Try.func7, Try.ntmps7
    go_wp2
    go_ret
    exact ⟨rfl, Below.refl _ _⟩
  by_cases h256 : z0.length ≤ 256
  · by_cases hq : z1.length = z0.length
    · have HQ := Lib.hid hq
      clear hq
      go_enter Try.func7, Try.ntmps7
      go_wp2_with fail
      refine (c_toF_E _ _ z0 _ (by omega) (H0.out.on (Ext.refl _))).mono ?_; rintro e w1 ⟨g1, rfl, hF1, hE1⟩
      go_wp2_with fail
      refine (c_toF_E _ _ z1 _ (by omega) (H1.out.on ((Ext.refl _).trans hE1))).mono ?_; rintro e w2 ⟨g2, rfl, hF2, hE2⟩
      go_wp2_with fail
      refine (c_spec_DotNumbers_any _ _ _ _ z0 z1 _ h256 HQ.out (hF1.on hE2) hF2).mono ?_; rintro e w' ⟨r, n, rfl, rfl, hv, hr⟩
      have HV := Lib.hid hv
      clear hv
      go_wp2_with fail
      refine (c_toF_E _ _ z0 _ (by omega) (H0.out.on ((((Ext.refl _).trans hE1).trans hE2).trans (Ext.drewN _ _)))).mono ?_; rintro e w3 ⟨g3, rfl, hF3, hE3⟩
      go_wp2_with fail
      refine (c_toF_E _ _ z1 _ (by omega) (H1.out.on (((((Ext.refl _).trans hE1).trans hE2).trans (Ext.drewN _ _)).trans hE3))).mono ?_; rintro e w4 ⟨g4, rfl, hF4, hE4⟩
      go_wp2_with fail
      refine (c_impl_DotNumbers_any _ _ _ _ z0 z1 _ h256 HQ.out (hF3.on hE4) hF4).mono ?_; rintro e w' ⟨r', n', rfl, rfl, hv', hr'⟩
      have HV' := Lib.hid hv'
      clear hv'
      go_wp2_with fail
      refine (c_sameFloat _ _ _ (by rw [fv_wideR, fv_wideR, HV.out, HV'.out])).mono ?_; rintro e w' ⟨rfl, m, rfl⟩
      go_wp2_with fail
      refine (c_toF_E _ _ z0 _ (by omega) (H0.out.on (((((((Ext.refl _).trans hE1).trans hE2).trans (Ext.drewN _ _)).trans hE3).trans hE4).trans (Ext.drewN _ _)))).mono ?_; rintro e w5 ⟨g5, rfl, hF5, hE5⟩
      go_wp2_with fail
      refine (c_eqF_any _ _ _ _ _ z0 _ hm0 (hF3.on ((hE4.trans (Ext.drewN _ _)).trans hE5)) hF5).mono ?_; rintro e w' ⟨rfl, m', rfl⟩
      go_wp2_with fail
      refine (c_toF_E _ _ z1 _ (by omega) (H1.out.on (((((((((Ext.refl _).trans hE1).trans hE2).trans (Ext.drewN _ _)).trans hE3).trans hE4).trans (Ext.drewN _ _)).trans hE5).trans (Ext.drewN _ _)))).mono ?_; rintro e w6 ⟨g6, rfl, hF6, hE6⟩
      go_wp2_with fail
      refine (c_eqF_any _ _ _ _ _ z1 _ hm1 (hF4.on (((Ext.drewN _ _).trans hE5).trans ((Ext.drewN _ _).trans hE6))) hF6).mono ?_; rintro e w' ⟨rfl, m'', rfl⟩
      go_wp2
      go_ret
      exact ⟨rfl, (((((((((((Ext.refl _).trans hE1).trans hE2).trans (Ext.drewN _ _)).trans hE3).trans hE4).trans (Ext.drewN _ _)).trans hE5).trans (Ext.drewN _ _)).trans hE6).trans (Ext.drewN _ _))⟩
    · have hq' : 256 < z0.length ∨ z0.length ≠ z1.length := .inr (fun h => hq h.symm)
      have HQ := Lib.hid hq'
      clear hq hq'
      go_enter Try.func7, Try.ntmps7
      go_wp2_with fail
      refine (c_toF_E _ _ z0 _ (by omega) (H0.out.on (Ext.refl _))).mono ?_; rintro e w1 ⟨g1, rfl, hF1, hE1⟩
      go_wp2_with fail
      refine (c_toF_E _ _ z1 _ (by omega) (H1.out.on ((Ext.refl _).trans hE1))).mono ?_; rintro e w2 ⟨g2, rfl, hF2, hE2⟩
      go_wp2_with fail
      refine (c_spec_DotNumbers_no _ _ _ _ _ _ _ HQ.out).mono ?_; rintro e w' ⟨rfl, rfl⟩
      go_wp2_with fail
      refine (c_toF_E _ _ z0 _ (by omega) (H0.out.on (((Ext.refl _).trans hE1).trans hE2))).mono ?_; rintro e w3 ⟨g3, rfl, hF3, hE3⟩
      go_wp2_with fail
      refine (c_toF_E _ _ z1 _ (by omega) (H1.out.on ((((Ext.refl _).trans hE1).trans hE2).trans hE3))).mono ?_; rintro e w4 ⟨g4, rfl, hF4, hE4⟩
      go_wp2_with fail
      refine (c_impl_DotNumbers_no _ _ _ _ _ _ _ HQ.out).mono ?_; rintro e w' ⟨rfl, rfl⟩
      go_wp2_with fail
      refine (c_sameFloat _ _ _ (by rw [fv_wideR, fv_wideR])).mono ?_; rintro e w' ⟨rfl, m, rfl⟩
      go_wp2_with fail
      refine (c_toF_E _ _ z0 _ (by omega) (H0.out.on ((((((Ext.refl _).trans hE1).trans hE2).trans hE3).trans hE4).trans (Ext.drewN _ _)))).mono ?_; rintro e w5 ⟨g5, rfl, hF5, hE5⟩
      go_wp2_with fail
      refine (c_eqF_any _ _ _ _ _ z0 _ hm0 (hF3.on ((hE4.trans (Ext.drewN _ _)).trans hE5)) hF5).mono ?_; rintro e w' ⟨rfl, m', rfl⟩
      go_wp2_with fail
      refine (c_toF_E _ _ z1 _ (by omega) (H1.out.on ((((((((Ext.refl _).trans hE1).trans hE2).trans hE3).trans hE4).trans (Ext.drewN _ _)).trans hE5).trans (Ext.drewN _ _)))).mono ?_; rintro e w6 ⟨g6, rfl, hF6, hE6⟩
      go_wp2_with fail
      refine (c_eqF_any _ _ _ _ _ z1 _ hm1 (hF4.on (((Ext.drewN _ _).trans hE5).trans ((Ext.drewN _ _).trans hE6))) hF6).mono ?_; rintro e w' ⟨rfl, m'', rfl⟩
      go_wp2
      go_ret
      exact ⟨rfl, ((((((((((Ext.refl _).trans hE1).trans hE2).trans hE3).trans hE4).trans (Ext.drewN _ _)).trans hE5).trans (Ext.drewN _ _)).trans hE6).trans (Ext.drewN _ _))⟩
  · have hq' : 256 < z0.length ∨ z0.length ≠ z1.length := .inl (by omega)
    have HQ := Lib.hid hq'
    clear hq'
    all_goals
      go_enter Try.func7, Try.ntmps7
      go_wp2_with fail
      refine (c_toF_E _ _ z0 _ (by omega) (H0.out.on (Ext.refl _))).mono ?_; rintro e w1 ⟨g1, rfl, hF1, hE1⟩
      go_wp2_with fail
      refine (c_toF_E _ _ z1 _ (by omega) (H1.out.on ((Ext.refl _).trans hE1))).mono ?_; rintro e w2 ⟨g2, rfl, hF2, hE2⟩
      go_wp2_with fail
      refine (c_spec_DotNumbers_no _ _ _ _ _ _ _ HQ.out).mono ?_; rintro e w' ⟨rfl, rfl⟩
      go_wp2_with fail
      refine (c_toF_E _ _ z0 _ (by omega) (H0.out.on (((Ext.refl _).trans hE1).trans hE2))).mono ?_; rintro e w3 ⟨g3, rfl, hF3, hE3⟩
      go_wp2_with fail
      refine (c_toF_E _ _ z1 _ (by omega) (H1.out.on ((((Ext.refl _).trans hE1).trans hE2).trans hE3))).mono ?_; rintro e w4 ⟨g4, rfl, hF4, hE4⟩
      go_wp2_with fail
      refine (c_impl_DotNumbers_no _ _ _ _ _ _ _ HQ.out).mono ?_; rintro e w' ⟨rfl, rfl⟩
      go_wp2_with fail
      refine (c_sameFloat _ _ _ (by rw [fv_wideR, fv_wideR])).mono ?_; rintro e w' ⟨rfl, m, rfl⟩
      go_wp2_with fail
      refine (c_toF_E _ _ z0 _ (by omega) (H0.out.on ((((((Ext.refl _).trans hE1).trans hE2).trans hE3).trans hE4).trans (Ext.drewN _ _)))).mono ?_; rintro e w5 ⟨g5, rfl, hF5, hE5⟩
      go_wp2_with fail
      refine (c_eqF_any _ _ _ _ _ z0 _ hm0 (hF3.on ((hE4.trans (Ext.drewN _ _)).trans hE5)) hF5).mono ?_; rintro e w' ⟨rfl, m', rfl⟩
      go_wp2_with fail
      refine (c_toF_E _ _ z1 _ (by omega) (H1.out.on ((((((((Ext.refl _).trans hE1).trans hE2).trans hE3).trans hE4).trans (Ext.drewN _ _)).trans hE5).trans (Ext.drewN _ _)))).mono ?_; rintro e w6 ⟨g6, rfl, hF6, hE6⟩
      go_wp2_with fail
      refine (c_eqF_any _ _ _ _ _ z1 _ hm1 (hF4.on (((Ext.drewN _ _).trans hE5).trans ((Ext.drewN _ _).trans hE6))) hF6).mono ?_; rintro e w' ⟨rfl, m'', rfl⟩
      go_wp2
      go_ret
      exact ⟨rfl, ((((((((((Ext.refl _).trans hE1).trans hE2).trans hE3).trans hE4).trans (Ext.drewN _ _)).trans hE5).trans (Ext.drewN _ _)).trans hE6).trans (Ext.drewN _ _))⟩
end Go.Proofs.Ytnjkpapjioeffab
