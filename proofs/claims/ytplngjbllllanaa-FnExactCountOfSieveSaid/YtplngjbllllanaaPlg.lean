/- The logarithm of a positive number, on both sides: one finite number. -/
import Derived.Test.YtplngjbllllanaaPsb
import Derived.Test.YtplngjbllllanaaLgn
namespace Go.Proofs.Ytplngjbllllanaa
open Go.ChangeShapes Go.WideShapes Go.ChangeAt Go.RowKit Go.Proofs.Ytplngjbllllanaa.Flo
set_option linter.unusedVariables false
attribute [local go_sem] unary_neg_float run_store_float run_store_complex
def bitsM (m : Nat) : Nat := m * 2 ^ (52 - m.log2)
def bitsI (m : Nat) (e : Int) : Int := e - (52 - m.log2 : Nat)
def lnV (m : Nat) (e : Int) : Option Nat := logOf (logS (fv .f64 (wd (bitsM m) (endK (bitsM m))))) (bitsI m e - endK (bitsM m))
def lnO : Option Nat → Option Nat
  | some x => match FloatKind.f32.decode x with
    | .number false m e => slim (lnV m e)
    | _ => none
  | none => none
theorem lnO_of {x m : Nat} {e : Int} (h : FloatKind.f32.decode x = .number false m e) : lnO (some x) = slim (lnV m e) := by unfold lnO; simp only [h]
theorem wide_at {x : Nat} {m : Nat} {e : Int} (hd : FloatKind.f32.decode x = .number false m e) (h0 : m ≠ 0) : 4503599627370496 ≤ bitsM m ∧ bitsM m < 9007199254740992 ∧ -210 ≤ bitsI m e ∧ bitsI m e ≤ 80 ∧ (∀ w, convR w .f32 x .f64 = wd (bitsM m) (bitsI m e)) ∧ convD .f32 x .f64 = 0 := by
  unfold bitsM bitsI
  obtain ⟨h1, h2, h3, _⟩ := decode32_number hd
  have hl := log2_lt24 h0 h1
  obtain ⟨b1, b2⟩ := shl_bounds h0 (n := 52) (by omega)
  have hW := widen_number hd
  refine ⟨b1, b2, by omega, by omega, fun w => ?_, ?_⟩
  · unfold convR
    rw [hW, Option.getD_some, encode64 h0 h1 h2 h3]
    unfold wd
    show (e + (m.log2 : Int) + 1022).toNat * 4503599627370496 + m * 2 ^ (52 - m.log2) = _
    have : (e + (m.log2 : Int) + 1022).toNat = (e - ((52 - m.log2 : Nat) : Int) + 1074).toNat := by omega
    rw [this]
  · unfold convD; rw [hW]; rfl
theorem lnV_fb {x m : Nat} {e : Int} (hd : FloatKind.f32.decode x = .number false m e) (h0 : m ≠ 0) : Fb .f64 (lnV m e) 80 := by
  obtain ⟨g1, g2, gi, gi', _, _⟩ := wide_at hd h0
  have hk : endK (bitsM m) = -52 ∨ endK (bitsM m) = -53 := by unfold endK; split <;> omega
  exact fb_logOf (e := bitsI m e - endK (bitsM m)) g1 g2 (by omega)
theorem lnO_fb {v : Option Nat} {a b : Int} (h : Ps v a b) : Fb .f32 (lnO v) 80 := by
  obtain ⟨c, m, e, rfl, hd, h0, _, _⟩ := h
  rw [lnO_of hd]
  exact (lnV_fb hd h0).slim (by omega) (by omega)
theorem fb_fv {c : Nat} {b : Int} (h : Fb .f32 (some c) b) : isFin .f32 c = true := by
  obtain ⟨d, h1, h2⟩ := h.fin
  rw [Option.some.inj h1]; exact h2
theorem fv_is32 {r c : Nat} (h : fv .f32 r = some c) : r = c := by
  unfold fv at h; split at h
  · cases h
  · exact Option.some.inj h
theorem c_impl_Log_ps (x c : Nat) (w : World) {a b : Int} (hl : x < 4294967296) (h : Ps (some x) a b) (hc : lnO (some x) = some c) : Calls Try.prog 106 #[.float .f32 x] w fun e w' => e = .returned (.float .f32 c) ∧ ∃ n, w' = w.drewN n := by
  obtain ⟨c0, m, e, h1, hd, h0, _, _⟩ := h
  obtain rfl := Option.some.inj h1
  rw [lnO_of hd] at hc
  obtain ⟨g1, g2, gi, gi', gR, gD⟩ := wide_at hd h0
  have hf : isFin .f32 x = true := by unfold isFin; rw [hd]
  obtain ⟨a1, a2⟩ := sign_num hd
  have a3 := self_neq .f32 x
  rw [hd] at a3
  rw [decide_eq_false h0] at a1
  rw [decide_eq_true h0, Bool.and_true] at a2
  have hok : slimOk (lnV m e) := (lnV_fb hd h0).bd64.slim (by omega)
  refine (c_impl_Log_pos x (bitsM m) (bitsI m e) w hl a1 a2 a3 hf g1 g2 gi gi' gR gD hok).mono ?_
  rintro e1 w' ⟨r, n, rfl, rfl, hr⟩
  have hr' : fv .f32 r = some c := hr.trans hc
  obtain rfl := fv_is32 hr'
  exact ⟨rfl, n, rfl⟩
theorem c_spec_Log_ps (x c : Nat) (w : World) {a b : Int} (h : Ps (some x) a b) (hc : lnO (some x) = some c) : Calls Try.prog 104 #[.float .f32 x] w fun e w' => e = .returned (.float .f32 c) ∧ ∃ n, w' = w.drewN n := by
  obtain ⟨c0, m, e, h1, hd, h0, _, _⟩ := h
  obtain rfl := Option.some.inj h1
  rw [lnO_of hd] at hc
  obtain ⟨g1, g2, gi, gi', gR, gD⟩ := wide_at hd h0
  have hok : slimOk (lnV m e) := (lnV_fb hd h0).bd64.slim (by omega)
  have hcx : ∀ wx : World, (convert 25 32 (.float .f32 x)).run Try.prog wx = .ok (.float .f64 (wd (bitsM m) (bitsI m e))) wx := fun wx => by
    rw [run_conv wx _ _ _ _ _ (by kernel_rfl) (by kernel_rfl), gR, gD]; rfl
  have C := Lib.hid (fun wx : World => c_spec_l01LogWide (bitsM m) (bitsI m e) wx g1 g2 gi gi')
  have HO := Lib.hid hok
  have HC := Lib.hid hc
  clear hok hc gR gD g1 g2 gi gi' hd h0 h1
  go_enter Try.func104, Try.ntmps104
  go_wp2_with fail
  refine (C.out _).mono ?_; rintro e1 w' ⟨r, n, rfl, rfl, hr⟩
  have HR := Lib.hid hr
  clear hr hcx
  have hcn : ∀ wx : World, (convert 32 25 (.float .f64 r)).run Try.prog wx = .ok (.float .f32 (convR wx .f64 r .f32)) (wx.drewN (convD .f64 r .f32)) := fun wx => run_conv wx _ _ _ _ _ (by kernel_rfl) (by kernel_rfl)
  go_wp2_with go_in
  go_ret
  have ho := HO.out
  unfold lnV at ho
  rw [← HR.out] at ho
  refine ⟨?_, _, rfl⟩
  have hv : fv .f32 (convR (w.drewN n) .f64 r .f32) = some c := by rw [fv_slimR _ _ ho, HR.out]; exact HC.out
  rw [fv_is32 hv]; rfl
end Go.Proofs.Ytplngjbllllanaa
