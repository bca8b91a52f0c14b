/- SineTurns: what both functions answer; the law's walk. -/
import Derived.Test.YtnjkpapjioeffacCis
import Derived.Test.YtnjkpapjioeffacFcs
import Derived.Test.YtnjkpapjioeffacLaw1
namespace Go.Proofs.Ytnjkpapjioeffac
open Go.ChangeShapes Go.WideShapes Go.ChangeAt Go.RowKit Go.Proofs.Ytnjkpapjioeffac.Flo
set_option linter.unusedVariables false
attribute [local go_sem] unary_neg_float run_store_float run_store_complex ext_Float32bits ext_Float64bits ext_Float32frombits ext_Float64frombits ext_sqrt

/-- a 32-bit float, widened: not finite, or a number that is far from 0, or one that is near -/
theorem wide_cases (x : Nat) :
    (isFin .f32 x = false) ∨
    (isFin .f32 x = true ∧ ∃ W, (∀ w, convR w .f32 x .f64 = W) ∧ convD .f32 x .f64 = 0 ∧ W < 18446744073709551616 ∧ isFin .f64 W = true ∧ (FloatKind.f64.format.order (W % 9223372036854775808) 4841369599423283200 == some .gt || FloatKind.f64.format.order (W % 9223372036854775808) 4841369599423283200 == some .eq) = true ∧
      ((FloatKind.f64.format.order W 4841369599423283200 == some .gt || FloatKind.f64.format.order W 4841369599423283200 == some .eq) = true ∨
       ((FloatKind.f64.format.order W 4841369599423283200 == some .gt || FloatKind.f64.format.order W 4841369599423283200 == some .eq) = false ∧ (FloatKind.f64.format.order W 14064741636278059008 == some .lt || FloatKind.f64.format.order W 14064741636278059008 == some .eq) = true))) ∨
    (isFin .f32 x = true ∧ ∃ W n, (∀ w, convR w .f32 x .f64 = W) ∧ convD .f32 x .f64 = 0 ∧ W < 18446744073709551616 ∧ isFin .f64 W = true ∧ Near W ∧ (FloatKind.f64.format.order (W % 9223372036854775808) 4841369599423283200 == some .gt || FloatKind.f64.format.order (W % 9223372036854775808) 4841369599423283200 == some .eq) = false ∧ floatToIntVal .f64 W .i64 = some n ∧ slimOk (sinF (shareV (fv .f64 W) n))) := by
  cases hf : isFin .f32 x with
  | false => exact .inl rfl
  | true =>
    right
    have hn : (FloatKind.f32.decode x).isNaN = false := by rw [isFin_iff] at hf; cases h : (FloatKind.f32.decode x).isNaN <;> simp_all
    obtain ⟨W, hW⟩ := wide_some hn
    have hR : ∀ w, convR w .f32 x .f64 = W := fun w => by unfold convR; rw [hW]; rfl
    have hD : convD .f32 x .f64 = 0 := by unfold convD; rw [hW]; rfl
    have hfW : isFin .f64 W = true := by have := wide_finite default x; rw [hR] at this; rw [this, hf]
    have hlt : W < 18446744073709551616 := by
      obtain ⟨d, hd⟩ : ∃ d, W = FloatKind.f64.encode d := by
        unfold floatToFloatBits at hW
        rw [if_neg (by decide)] at hW
        split at hW
        · cases hW
        · exact ⟨_, (Option.some.inj hW).symm⟩
        · split at hW
          · cases hW
          · exact ⟨_, (Option.some.inj hW).symm⟩
      rw [hd]; exact FloatKind.f64.format.write_lt d
    cases hd : FloatKind.f64.decode W with
    | nan s t => unfold isFin at hfW; rw [hd] at hfW; cases hfW
    | infinity s => unfold isFin at hfW; rw [hd] at hfW; cases hfW
    | number s m e =>
      rcases near_cases hd with ⟨h1, h2, h3⟩ | ⟨h1, h2⟩
      · exact .inr ⟨rfl, W, _, hR, hD, hlt, hfW, h2, h3, trunc_near hd h1, (bd_sinF (bd_share (frac_bd hd h1))).slim (by omega)⟩
      · exact .inl ⟨rfl, W, hR, hD, hlt, hfW, h1, h2⟩
theorem c_math_NaN (w : World) : Calls Try.prog 38 #[] w fun e w' => e = .returned (.float .f64 9221120237041090561) ∧ w = w' := by
  go_enter Try.func38, Try.ntmps38
  go_wp2
  go_ret
  exact ⟨rfl, rfl⟩
theorem nan64 : fv .f64 9221120237041090561 = none := by kernel_rfl
theorem c_impl_SineTurns_nan (x : Nat) (w : World) (h : x < 4294967296) (hf : isFin .f32 x = false) : Calls Try.prog 18 #[.float .f32 x] w (RetG .f32 none w) := by
  have hcv : ∀ wx : World, (convert 28 22 (.float .f32 x)).run Try.prog wx = .ok (.float .f64 (convR wx .f32 x .f64)) (wx.drewN (convD .f32 x .f64)) := fun wx => run_conv wx _ _ _ _ _ (by kernel_rfl) (by kernel_rfl)
  have hcn : ∀ wx : World, (convert 22 28 (.float .f64 9221120237041090561)).run Try.prog wx = .ok (.float .f32 (convR wx .f64 9221120237041090561 .f32)) (wx.drewN (convD .f64 9221120237041090561 .f32)) := fun wx => run_conv wx _ _ _ _ _ (by kernel_rfl) (by kernel_rfl)
  have hl : convR w .f32 x .f64 < 18446744073709551616 := convR_lt w .f32 x .f64 h
  have hi := wide_finite w x
  rw [hf] at hi
  clear hf
  go_enter Try.func18, Try.ntmps18
  go_wp2_with (first | (go_at_call 37; refine (c_impl_isFiniteWide _ _ hl).mono ?_; rintro e w' ⟨rfl, rfl⟩) | (go_at_call 38; refine (c_math_NaN _).mono ?_; rintro e w' ⟨rfl, rfl⟩))
  go_ret
  exact RetG.mk _ (by rw [fv_slimR _ _ (.inl nan64), nan64]; rfl)
theorem c_impl_SineTurns_far (x W : Nat) (w : World) (hR : ∀ w, convR w .f32 x .f64 = W) (hD : convD .f32 x .f64 = 0) (hl : W < 18446744073709551616) (hi : isFin .f64 W = true) (hb : (FloatKind.f64.format.order (W % 9223372036854775808) 4841369599423283200 == some .gt || FloatKind.f64.format.order (W % 9223372036854775808) 4841369599423283200 == some .eq) = true) : Calls Try.prog 18 #[.float .f32 x] w (RetG .f32 (some 0) w) := by
  have hcv : ∀ wx : World, (convert 28 22 (.float .f32 x)).run Try.prog wx = .ok (.float .f64 W) wx := fun wx => by
    rw [run_conv wx _ _ _ _ _ (by kernel_rfl) (by kernel_rfl), hR, hD]; rfl
  clear hR hD
  go_enter Try.func18, Try.ntmps18
  go_wp2_with (first | (go_at_call 37; refine (c_impl_isFiniteWide _ _ hl).mono ?_; rintro e w' ⟨rfl, rfl⟩) | (go_at_call 39; refine (c_Abs _ _ hl).mono ?_; rintro e w' ⟨rfl, rfl⟩))
  go_ret
  exact RetG.mk0 rfl
theorem c_impl_SineTurns_near (x W : Nat) (n : Int) (w : World) (hR : ∀ w, convR w .f32 x .f64 = W) (hD : convD .f32 x .f64 = 0) (hl : W < 18446744073709551616) (hi : isFin .f64 W = true) (hb : (FloatKind.f64.format.order (W % 9223372036854775808) 4841369599423283200 == some .gt || FloatKind.f64.format.order (W % 9223372036854775808) 4841369599423283200 == some .eq) = false) (hn : floatToIntVal .f64 W .i64 = some n) (hok : slimOk (sinF (shareV (fv .f64 W) n))) :
    Calls Try.prog 18 #[.float .f32 x] w (RetG .f32 (slim (sinF (shareV (fv .f64 W) n))) w) := by
  have hcv : ∀ wx : World, (convert 28 22 (.float .f32 x)).run Try.prog wx = .ok (.float .f64 W) wx := fun wx => by
    rw [run_conv wx _ _ _ _ _ (by kernel_rfl) (by kernel_rfl), hR, hD]; rfl
  clear hR hD
  have HN := Lib.hid hn
  have HO := Lib.hid hok
  clear hn hok
  go_enter Try.func18, Try.ntmps18
  go_wp2_with (first | (go_at_call 37; refine (c_impl_isFiniteWide _ _ hl).mono ?_; rintro e w' ⟨rfl, rfl⟩) | (go_at_call 39; refine (c_Abs _ _ hl).mono ?_; rintro e w' ⟨rfl, rfl⟩))
  refine (c_impl_wideSine _ _ _ HN.out).mono ?_; rintro e w' ⟨r, m, rfl, rfl, hr⟩
  have HR := Lib.hid hr
  clear hr hcv
  have hcn : ∀ wx : World, (convert 22 28 (.float .f64 r)).run Try.prog wx = .ok (.float .f32 (convR wx .f64 r .f32)) (wx.drewN (convD .f64 r .f32)) := fun wx => run_conv wx _ _ _ _ _ (by kernel_rfl) (by kernel_rfl)
  go_wp2_with go_in
  go_ret
  refine RetG.mk _ ?_
  have ho := HO.out
  rw [← HR.out] at ho
  rw [fv_slimR _ _ ho, HR.out]
theorem c_spec_SineTurns_nan (x : Nat) (w : World) (h : x < 4294967296) (hf : isFin .f32 x = false) : Calls Try.prog 17 #[.float .f32 x] w (RetG .f32 none w) := by
  have hcv : ∀ wx : World, (convert 28 22 (.float .f32 x)).run Try.prog wx = .ok (.float .f64 (convR wx .f32 x .f64)) (wx.drewN (convD .f32 x .f64)) := fun wx => run_conv wx _ _ _ _ _ (by kernel_rfl) (by kernel_rfl)
  have hcn : ∀ wx : World, (convert 22 28 (.float .f64 9221120237041090561)).run Try.prog wx = .ok (.float .f32 (convR wx .f64 9221120237041090561 .f32)) (wx.drewN (convD .f64 9221120237041090561 .f32)) := fun wx => run_conv wx _ _ _ _ _ (by kernel_rfl) (by kernel_rfl)
  have c : ∀ wx y, isFin .f64 y = false → Calls Try.prog 60 #[.float .f64 y] wx fun e w' => e = .returned (.float .f64 9221120237041090561) ∧ ∃ n, w' = wx.drewN n := by
    intro wx y hy
    have HY := Lib.hid hy
    clear hy
    go_enter Try.func60, Try.ntmps60
    go_wp2_with fail
    (with_reducible refine upon_fl rfl ?_); intro d nd hd
    have hdz : (FloatKind.f64.format.order d 0 != some .eq) = true := by rw [bne_of_beq (sub_self_val hd.out), HY.out]; rfl
    clear hd
    go_wp2_with (go_at_call 38; refine (c_math_NaN _).mono ?_; rintro e w' ⟨rfl, rfl⟩)
    go_ret
    exact ⟨rfl, _, rfl⟩
  have hi := wide_finite w x
  rw [hf] at hi
  have C := Lib.hid c
  clear hf c
  go_enter Try.func17, Try.ntmps17
  go_wp2_with (first | (go_at_call 60; refine (C.out _ _ hi).mono ?_; rintro e w' ⟨rfl, k, rfl⟩) | go_in)
  go_ret
  exact RetG.mk _ (by rw [fv_slimR _ _ (.inl nan64), nan64]; rfl)
theorem slim0 : slim (fv .f64 0) = some 0 := by kernel_rfl
theorem slim0ok : slimOk (fv .f64 0) := .inr (by rw [slim0]; rfl)
theorem c_spec_SineTurns_far (x W : Nat) (w : World) (hR : ∀ w, convR w .f32 x .f64 = W) (hD : convD .f32 x .f64 = 0) (hi : isFin .f64 W = true) (hb : (FloatKind.f64.format.order W 4841369599423283200 == some .gt || FloatKind.f64.format.order W 4841369599423283200 == some .eq) = true ∨
       ((FloatKind.f64.format.order W 4841369599423283200 == some .gt || FloatKind.f64.format.order W 4841369599423283200 == some .eq) = false ∧ (FloatKind.f64.format.order W 14064741636278059008 == some .lt || FloatKind.f64.format.order W 14064741636278059008 == some .eq) = true)) : Calls Try.prog 17 #[.float .f32 x] w (RetG .f32 (some 0) w) := by
  have hcv : ∀ wx : World, (convert 28 22 (.float .f32 x)).run Try.prog wx = .ok (.float .f64 W) wx := fun wx => by
    rw [run_conv wx _ _ _ _ _ (by kernel_rfl) (by kernel_rfl), hR, hD]; rfl
  have hcn : ∀ wx : World, (convert 22 28 (.float .f64 0)).run Try.prog wx = .ok (.float .f32 (convR wx .f64 0 .f32)) (wx.drewN (convD .f64 0 .f32)) := fun wx => run_conv wx _ _ _ _ _ (by kernel_rfl) (by kernel_rfl)
  clear hR hD
  have HI := Lib.hid hi
  clear hi
  have c : ∀ wx, Calls Try.prog 60 #[.float .f64 W] wx fun e w' => e = .returned (.float .f64 0) ∧ ∃ n, w' = wx.drewN n := by
    intro wx
    clear hcv hcn
    rcases hb with hb | ⟨hb1, hb2⟩
    · go_enter Try.func60, Try.ntmps60
      go_wp2_with fail
      (with_reducible refine upon_fl rfl ?_); intro d nd hd
      have hdz : (FloatKind.f64.format.order d 0 != some .eq) = false := by rw [bne_of_beq (sub_self_val hd.out), HI.out]; rfl
      clear hd
      go_wp2_with fail
      go_ret
      exact ⟨rfl, _, rfl⟩
    · go_enter Try.func60, Try.ntmps60
      go_wp2_with fail
      (with_reducible refine upon_fl rfl ?_); intro d nd hd
      have hdz : (FloatKind.f64.format.order d 0 != some .eq) = false := by rw [bne_of_beq (sub_self_val hd.out), HI.out]; rfl
      clear hd
      go_wp2_with fail
      go_ret
      exact ⟨rfl, _, rfl⟩
  have C := Lib.hid c
  clear c hb
  go_enter Try.func17, Try.ntmps17
  go_wp2_with (first | (go_at_call 60; refine (C.out _).mono ?_; rintro e w' ⟨rfl, k, rfl⟩) | go_in)
  go_ret
  exact RetG.mk _ (by rw [fv_slimR _ _ slim0ok, slim0])
theorem c_spec_SineTurns_near (x W : Nat) (n : Int) (w : World) (hR : ∀ w, convR w .f32 x .f64 = W) (hD : convD .f32 x .f64 = 0) (hnr : Near W) (hn : floatToIntVal .f64 W .i64 = some n) (hok : slimOk (sinF (shareV (fv .f64 W) n))) :
    Calls Try.prog 17 #[.float .f32 x] w (RetG .f32 (slim (sinF (shareV (fv .f64 W) n))) w) := by
  have hcv : ∀ wx : World, (convert 28 22 (.float .f32 x)).run Try.prog wx = .ok (.float .f64 W) wx := fun wx => by
    rw [run_conv wx _ _ _ _ _ (by kernel_rfl) (by kernel_rfl), hR, hD]; rfl
  clear hR hD
  have HN := Lib.hid hn
  have HO := Lib.hid hok
  have HNR := Lib.hid hnr
  clear hn hok hnr
  have c : ∀ wx, Calls Try.prog 48 #[.float .f32 x] wx (RetG .f32 (slim (sinF (shareV (fv .f64 W) n))) wx) := by
    intro wx
    go_enter Try.func48, Try.ntmps48
    go_wp2_with fail
    refine (c_spec_l01SineWide _ _ _ HNR.out HN.out).mono ?_; rintro e w' ⟨r, m, rfl, rfl, hr⟩
    have HR := Lib.hid hr
    clear hr hcv
    have hcn : ∀ wx : World, (convert 22 28 (.float .f64 r)).run Try.prog wx = .ok (.float .f32 (convR wx .f64 r .f32)) (wx.drewN (convD .f64 r .f32)) := fun wx => run_conv wx _ _ _ _ _ (by kernel_rfl) (by kernel_rfl)
    go_wp2_with go_in
    go_ret
    refine RetG.mk _ ?_
    have ho := HO.out
    rw [← HR.out] at ho
    rw [fv_slimR _ _ ho, HR.out]
  have C := Lib.hid c
  clear c hcv
  go_enter Try.func17, Try.ntmps17
  go_wp2_with (go_at_call 48; refine (C.out _).mono ?_; rintro e w' ⟨r, m, rfl, rfl, hr⟩)
  go_ret
  exact RetG.mk _ hr
theorem c_impl_SineTurns (x : Nat) (h : x < 4294967296) : ∃ v, (∀ w, Calls Try.prog 18 #[.float .f32 x] w (RetG .f32 v w)) ∧ (∀ w, Calls Try.prog 17 #[.float .f32 x] w (RetG .f32 v w)) := by
  rcases wide_cases x with hf | ⟨hf, W, hR, hD, hl, hi, hb, hb'⟩ | ⟨hf, W, n, hR, hD, hl, hi, hnr, hb, hn, hok⟩
  · exact ⟨none, fun w => c_impl_SineTurns_nan x w h hf, fun w => c_spec_SineTurns_nan x w h hf⟩
  · exact ⟨some 0, fun w => c_impl_SineTurns_far x W w hR hD hl hi hb, fun w => c_spec_SineTurns_far x W w hR hD hi hb'⟩
  · exact ⟨_, fun w => c_impl_SineTurns_near x W n w hR hD hl hi hb hn hok, fun w => c_spec_SineTurns_near x W n w hR hD hnr hn hok⟩
theorem walk_FnExactSineTurns (a0 : Nat) (w : World) (w0 : (Lit.float .f32 a0).wf = true) :
    Calls Try.prog 5 #[.float .f32 a0] w fun e w' => e = .returned (.bool true) ∧ Below w.heap.size w w' := by
  have h0 := wf32 w0
  clear w0
  obtain ⟨v, c1, c2⟩ := c_impl_SineTurns a0 h0
  have C1 := Lib.hid c1
  have C2 := Lib.hid c2
  clear c1 c2
  go_enter Try.func5, Try.ntmps5
  go_wp2_with fail
  refine (C2.out _).mono ?_; rintro e w' ⟨r, n, rfl, rfl, hv⟩
  have HV := Lib.hid hv
  clear hv
  go_wp2_with fail
  refine (C1.out _).mono ?_; rintro e w' ⟨r', n', rfl, rfl, hv'⟩
  have HV' := Lib.hid hv'
  clear hv'
  have hcv : ∀ (wx : World) (y : Nat), (convert 28 22 (.float .f32 y)).run Try.prog wx = .ok (.float .f64 (convR wx .f32 y .f64)) (wx.drewN (convD .f32 y .f64)) := fun wx y => run_conv wx _ _ _ _ _ (by kernel_rfl) (by kernel_rfl)
  go_wp2_with fail
  refine (c_sameFloat _ _ _ (by rw [fv_wideR, fv_wideR, HV.out, HV'.out])).mono ?_; rintro e w' ⟨rfl, m, rfl⟩
  go_wp2
  go_ret
  exact ⟨rfl, wbelow _ _⟩
end Go.Proofs.Ytnjkpapjioeffac
