/- LogNumber: both functions answer the same; the law's walk. -/
import Derived.Test.YtnjkpapjioeffacLog
namespace Go.Proofs.Ytnjkpapjioeffac
open Go.ChangeShapes Go.WideShapes Go.ChangeAt Go.RowKit Go.Proofs.Ytnjkpapjioeffac.Flo
set_option linter.unusedVariables false
attribute [local go_sem] unary_neg_float run_store_float run_store_complex ext_Float32bits ext_Float64bits ext_Float32frombits ext_Float64frombits ext_sqrt

/-- a positive finite 32-bit float, widened, has 53 digits -/
theorem wide_pos {x : Nat} {m : Nat} {e : Int} (hd : FloatKind.f32.decode x = .number false m e) (h0 : m ≠ 0) : ∃ M i, 4503599627370496 ≤ M ∧ M < 9007199254740992 ∧ -210 ≤ i ∧ i ≤ 80 ∧ (∀ w, convR w .f32 x .f64 = wd M i) ∧ convD .f32 x .f64 = 0 := by
  obtain ⟨h1, h2, h3, _⟩ := decode32_number hd
  have hl := log2_lt24 h0 h1
  obtain ⟨b1, b2⟩ := shl_bounds h0 (n := 52) (by omega)
  have hW := widen_number hd
  refine ⟨m * 2 ^ (52 - m.log2), e - (52 - m.log2 : Nat), b1, b2, by omega, by omega, fun w => ?_, ?_⟩
  · unfold convR
    rw [hW, Option.getD_some, encode64 h0 h1 h2 h3]
    unfold wd
    show (e + (m.log2 : Int) + 1022).toNat * 4503599627370496 + m * 2 ^ (52 - m.log2) = _
    have : (e + (m.log2 : Int) + 1022).toNat = (e - ((52 - m.log2 : Nat) : Int) + 1074).toNat := by omega
    rw [this]
  · unfold convD; rw [hW]; rfl
theorem sign_inf {k : FloatKind} {x : Nat} {s : Bool} (hd : k.decode x = .infinity s) : (k.format.order x 0 == some .eq) = false ∧ (k.format.order x 0 == some .lt) = s := by
  have hz : ∃ l, k.decode 0 = .number false 0 l := by cases k; exact ⟨-149, rfl⟩; exact ⟨-1074, rfl⟩
  obtain ⟨l, hl⟩ := hz
  have h2 : k.format.order x 0 = (k.decode x).order (k.decode 0) := rfl
  rw [h2, hd, hl]
  cases s <;> exact ⟨rfl, rfl⟩
theorem sign_nan {k : FloatKind} {x : Nat} {s : Bool} {t : Nat} (hd : k.decode x = .nan s t) : (k.format.order x 0 == some .eq) = false ∧ (k.format.order x 0 == some .lt) = false := by
  have h2 : k.format.order x 0 = (k.decode x).order (k.decode 0) := rfl
  rw [h2, order_nan_left (by rw [hd]; rfl)]
  exact ⟨rfl, rfl⟩
theorem self_neq (k : FloatKind) (x : Nat) : (k.format.order x x != some .eq) = (k.decode x).isNaN := by
  rw [bne_of_beq (order_self k x)]; cases (k.decode x).isNaN <;> rfl
theorem c_Inf_neg (w : World) : Calls Try.prog 52 #[.int .i64 (-1)] w fun e w' => e = .returned (.float .f64 18442240474082181120) ∧ w = w' := by
  go_enter Try.func52, Try.ntmps52
  go_wp2
  go_ret
  exact ⟨rfl, rfl⟩
theorem ninf64 : fv .f64 18442240474082181120 = some 18442240474082181120 := by kernel_rfl
theorem slim_ninf : slim (some 18442240474082181120) = some 4286578688 := by kernel_rfl
theorem ninf_ok : slimOk (fv .f64 18442240474082181120) := by rw [ninf64]; exact .inr (by rw [slim_ninf]; rfl)
theorem c_impl_Log_zero (x : Nat) (w : World) (h : (FloatKind.f32.format.order x 0 == some .eq) = true) : Calls Try.prog 25 #[.float .f32 x] w (RetG .f32 (some 4286578688) w) := by
  have hcn : ∀ wx : World, (convert 22 28 (.float .f64 18442240474082181120)).run Try.prog wx = .ok (.float .f32 (convR wx .f64 18442240474082181120 .f32)) (wx.drewN (convD .f64 18442240474082181120 .f32)) := fun wx => run_conv wx _ _ _ _ _ (by kernel_rfl) (by kernel_rfl)
  go_enter Try.func25, Try.ntmps25
  go_wp2_with (go_at_call 52; refine (c_Inf_neg _).mono ?_; rintro e w' ⟨rfl, rfl⟩)
  go_ret
  exact RetG.mk _ (by rw [fv_slimR _ _ ninf_ok, ninf64, slim_ninf])
theorem c_impl_Log_nan (x : Nat) (w : World) (h : (FloatKind.f32.format.order x 0 == some .eq) = false) (h2 : (FloatKind.f32.format.order x 0 == some .lt) = true ∨ ((FloatKind.f32.format.order x 0 == some .lt) = false ∧ (FloatKind.f32.format.order x x != some .eq) = true)) : Calls Try.prog 25 #[.float .f32 x] w (RetG .f32 none w) := by
  have hcn : ∀ wx : World, (convert 22 28 (.float .f64 9221120237041090561)).run Try.prog wx = .ok (.float .f32 (convR wx .f64 9221120237041090561 .f32)) (wx.drewN (convD .f64 9221120237041090561 .f32)) := fun wx => run_conv wx _ _ _ _ _ (by kernel_rfl) (by kernel_rfl)
  rcases h2 with h2 | ⟨h2, h3⟩
  all_goals
    go_enter Try.func25, Try.ntmps25
    go_wp2_with (go_at_call 38; refine (c_math_NaN _).mono ?_; rintro e w' ⟨rfl, rfl⟩)
    go_ret
    exact RetG.mk _ (by rw [fv_slimR _ _ (.inl nan64), nan64]; rfl)
theorem c_impl_Log_inf (x : Nat) (w : World) (hl : x < 4294967296) (h : (FloatKind.f32.format.order x 0 == some .eq) = false) (h2 : (FloatKind.f32.format.order x 0 == some .lt) = false) (h3 : (FloatKind.f32.format.order x x != some .eq) = false) (hf : isFin .f32 x = false) : Calls Try.prog 25 #[.float .f32 x] w (RetG .f32 (fv .f32 x) w) := by
  have C := fun (wx : World) => c_impl_IsFinite x wx hl
  rw [hf] at C
  have HC := Lib.hid C
  clear C hf
  go_enter Try.func25, Try.ntmps25
  go_wp2_with (go_at_call 45; refine (HC.out _).mono ?_; rintro e w' ⟨rfl, n, rfl⟩)
  go_ret
  exact RetG.mk _ rfl
theorem c_impl_Log_pos (x M : Nat) (i : Int) (w : World) (hl : x < 4294967296) (h : (FloatKind.f32.format.order x 0 == some .eq) = false) (h2 : (FloatKind.f32.format.order x 0 == some .lt) = false) (h3 : (FloatKind.f32.format.order x x != some .eq) = false) (hf : isFin .f32 x = true)
    (g1 : 4503599627370496 ≤ M) (g2 : M < 9007199254740992) (hi : -210 ≤ i) (hi' : i ≤ 80) (hR : ∀ w, convR w .f32 x .f64 = wd M i) (hD : convD .f32 x .f64 = 0) (hok : slimOk (logOf (logS (fv .f64 (wd M (endK M)))) (i - endK M))) :
    Calls Try.prog 25 #[.float .f32 x] w (RetG .f32 (slim (logOf (logS (fv .f64 (wd M (endK M)))) (i - endK M))) w) := by
  have hcv : ∀ wx : World, (convert 28 22 (.float .f32 x)).run Try.prog wx = .ok (.float .f64 (wd M i)) wx := fun wx => by
    rw [run_conv wx _ _ _ _ _ (by kernel_rfl) (by kernel_rfl), hR, hD]; rfl
  have C := fun (wx : World) => c_impl_IsFinite x wx hl
  rw [hf] at C
  have HC := Lib.hid C
  have HO := Lib.hid hok
  have CL := Lib.hid (fun (wx : World) => c_impl_wideLog M i wx g1 g2 hi hi')
  clear C hf hok g1 g2 hi hi' hR hD
  go_enter Try.func25, Try.ntmps25
  go_wp2_with (go_at_call 45; refine (HC.out _).mono ?_; rintro e w' ⟨rfl, n, rfl⟩)
  refine (CL.out _).mono ?_; rintro e w' ⟨r, k, rfl, rfl, hr⟩
  have HR := Lib.hid hr
  clear hr hcv
  have hcn : ∀ wx : World, (convert 22 28 (.float .f64 r)).run Try.prog wx = .ok (.float .f32 (convR wx .f64 r .f32)) (wx.drewN (convD .f64 r .f32)) := fun wx => run_conv wx _ _ _ _ _ (by kernel_rfl) (by kernel_rfl)
  go_wp2_with go_in
  go_ret
  refine RetG.mk _ ?_
  have ho := HO.out
  rw [← HR.out] at ho
  rw [fv_slimR _ _ ho, HR.out]
theorem c_spec_Log_nan (Y : Nat) (w : World) (h : (FloatKind.f64.format.order Y Y != some .eq) = true ∨ ((FloatKind.f64.format.order Y Y != some .eq) = false ∧ (FloatKind.f64.format.order Y 0 == some .lt) = true)) : Calls Try.prog 66 #[.float .f64 Y] w (RetG .f64 none w) := by
  rcases h with h | ⟨h, h2⟩
  all_goals
    go_enter Try.func66, Try.ntmps66
    go_wp2_with (go_at_call 38; refine (c_math_NaN _).mono ?_; rintro e w' ⟨rfl, rfl⟩)
    go_ret
    exact RetG.mk0 nan64
theorem c_spec_Log_zero (Y : Nat) (w : World) (h : (FloatKind.f64.format.order Y Y != some .eq) = false) (h2 : (FloatKind.f64.format.order Y 0 == some .lt) = false) (h3 : (FloatKind.f64.format.order Y 0 == some .eq) = true) : Calls Try.prog 66 #[.float .f64 Y] w (RetG .f64 (some 18442240474082181120) w) := by
  go_enter Try.func66, Try.ntmps66
  go_wp2_with (go_at_call 52; refine (c_Inf_neg _).mono ?_; rintro e w' ⟨rfl, rfl⟩)
  go_ret
  exact RetG.mk0 ninf64
theorem c_spec_Log_inf (w : World) : Calls Try.prog 66 #[.float .f64 9218868437227405312] w (RetG .f64 (some 9218868437227405312) w) := by
  have h1 : (FloatKind.f64.format.order 9218868437227405312 9218868437227405312 != some .eq) = false := by kernel_rfl
  have h2 : (FloatKind.f64.format.order 9218868437227405312 0 == some .lt) = false := by kernel_rfl
  have h3 : (FloatKind.f64.format.order 9218868437227405312 0 == some .eq) = false := by kernel_rfl
  have c : ∀ wx, Calls Try.prog 63 #[.float .f64 9218868437227405312, .int .i64 1] wx fun e w' => e = .returned (.bool true) ∧ wx = w' := by
    intro wx
    have h4 : (FloatKind.f64.format.order 9218868437227405312 9218868437227405311 == some .gt) = true := by kernel_rfl
    clear h1 h2 h3
    go_enter Try.func63, Try.ntmps63
    go_wp2
    go_ret
    exact ⟨rfl, rfl⟩
  have C := Lib.hid c
  clear c
  have hv : fv .f64 9218868437227405312 = some 9218868437227405312 := by kernel_rfl
  have HV := Lib.hid hv
  clear hv
  go_enter Try.func66, Try.ntmps66
  go_wp2_with (go_at_call 63; refine (C.out _).mono ?_; rintro e w' ⟨rfl, rfl⟩)
  go_ret
  exact RetG.mk0 HV.out
theorem c_spec_Log_of (x : Nat) (w : World) (V : Option Nat) (hok : slimOk V)
    (c : ∀ wx wy, Calls Try.prog 66 #[.float .f64 (convR wy .f32 x .f64)] wx (RetG .f64 V wx)) :
    Calls Try.prog 24 #[.float .f32 x] w (RetG .f32 (slim V) w) := by
  have hcx : ∀ wx : World, (convert 28 22 (.float .f32 x)).run Try.prog wx = .ok (.float .f64 (convR wx .f32 x .f64)) (wx.drewN (convD .f32 x .f64)) := fun wx => run_conv wx _ _ _ _ _ (by kernel_rfl) (by kernel_rfl)
  have C := Lib.hid c
  have HO := Lib.hid hok
  clear c hok
  have c2 : ∀ wx, Calls Try.prog 53 #[.float .f32 x] wx (RetG .f32 (slim V) wx) := by
    intro wx
    go_enter Try.func53, Try.ntmps53
    go_wp2_with fail
    refine (C.out _ _).mono ?_; rintro e w' ⟨r, n, rfl, rfl, hr⟩
    have HR := Lib.hid hr
    clear hr hcx
    have hcn : ∀ wx : World, (convert 22 28 (.float .f64 r)).run Try.prog wx = .ok (.float .f32 (convR wx .f64 r .f32)) (wx.drewN (convD .f64 r .f32)) := fun wx => run_conv wx _ _ _ _ _ (by kernel_rfl) (by kernel_rfl)
    go_wp2_with go_in
    go_ret
    refine RetG.mk _ ?_
    have ho := HO.out
    rw [← HR.out] at ho
    rw [fv_slimR _ _ ho, HR.out]
  have C2 := Lib.hid c2
  clear c2 hcx
  go_enter Try.func24, Try.ntmps24
  go_wp2_with (go_at_call 53; refine (C2.out _).mono ?_; rintro e w' ⟨r, n, rfl, rfl, hr⟩)
  go_ret
  exact RetG.mk _ hr
theorem slim_pinf : slim (some 9218868437227405312) = some 2139095040 := by kernel_rfl
theorem c_both_Log (x : Nat) (hl : x < 4294967296) : ∃ v, (∀ w, Calls Try.prog 25 #[.float .f32 x] w (RetG .f32 v w)) ∧ (∀ w, Calls Try.prog 24 #[.float .f32 x] w (RetG .f32 v w)) := by
  cases hd : FloatKind.f32.decode x with
  | nan s t =>
    obtain ⟨a1, a2⟩ := sign_nan hd
    have a3 := self_neq .f32 x
    rw [hd] at a3
    refine ⟨none, fun w => c_impl_Log_nan x w a1 (.inr ⟨a2, a3⟩), fun w => ?_⟩
    refine c_spec_Log_of x w none (.inl rfl) (fun wx wy => c_spec_Log_nan _ _ (.inl ?_))
    rw [self_neq]
    have hv := fv_wideR wy x
    rw [fv_none (k := .f32) (by rw [hd]; rfl)] at hv
    rcases fv_cases .f64 (convR wy .f32 x .f64) with ⟨h, _⟩ | ⟨_, h⟩
    · exact h
    · rw [h] at hv; cases hv
  | infinity s =>
    obtain ⟨a1, a2⟩ := sign_inf hd
    have a3 := self_neq .f32 x
    rw [hd] at a3
    have hf : isFin .f32 x = false := by unfold isFin; rw [hd]
    have hR : ∀ w, convR w .f32 x .f64 = FloatKind.f64.encode (.infinity s) := fun w => by unfold convR; rw [widen_infinity hd]; rfl
    cases s with
    | true =>
      refine ⟨none, fun w => c_impl_Log_nan x w a1 (.inl a2), fun w => ?_⟩
      refine c_spec_Log_of x w none (.inl rfl) (fun wx wy => ?_)
      rw [hR]
      have e : FloatKind.f64.encode (.infinity true) = 18442240474082181120 := by kernel_rfl
      rw [e]
      exact c_spec_Log_nan _ _ (.inr ⟨by kernel_rfl, by kernel_rfl⟩)
    | false =>
      have hx : fv .f32 x = some 2139095040 := by
        have hv : fv .f32 x = some x := fv_some (by rw [hd]; rfl)
        rcases decode32_kinds x with ⟨h, hd'⟩ | ⟨h, m, e, hd', _⟩ | ⟨h, s, hd'⟩ | ⟨h, s, t, hd'⟩
        · rw [hd] at hd'; cases hd'
        · rw [hd] at hd'; cases hd'
        · have h0 : FloatKind.f32.decode x = Ieee.single.read x := rfl
          rw [h0] at hd
          unfold Ieee.Format.read at hd
          simp only at hd
          by_cases c1 : x % Ieee.single.signWeight < Ieee.single.binade
          · rw [if_pos c1] at hd; cases hd
          · rw [if_neg c1] at hd
            by_cases c2 : x % Ieee.single.signWeight < Ieee.single.infRung
            · rw [if_pos c2] at hd; cases hd
            · rw [if_neg c2] at hd
              by_cases c3 : x % Ieee.single.signWeight = Ieee.single.infRung
              · rw [if_pos c3] at hd
                have hs := Ieee.Datum.infinity.inj hd
                rw [single_sw, single_inf] at c3
                rw [single_sw] at hs
                have hb : ¬ x / 2147483648 % 2 = 1 := by
                  intro hb; rw [hb] at hs; cases hs
                rw [hv]
                congr 1
                omega
              · rw [if_neg c3] at hd; cases hd
        · rw [hd] at hd'; cases hd'
      refine ⟨some 2139095040, fun w => by have := c_impl_Log_inf x w hl a1 a2 a3 hf; rw [hx] at this; exact this, fun w => ?_⟩
      have := c_spec_Log_of x w (some 9218868437227405312) (.inr (by rw [slim_pinf]; rfl)) (fun wx wy => by
        rw [hR]
        have e : FloatKind.f64.encode (.infinity false) = 9218868437227405312 := by kernel_rfl
        rw [e]
        exact c_spec_Log_inf wx)
      rw [slim_pinf] at this
      exact this
  | number s m e =>
    have hf : isFin .f32 x = true := by unfold isFin; rw [hd]
    obtain ⟨W, s1, m1, e1, m', e', hR, hD, hW, gW, d1, dW, hz⟩ := wide_num hf
    rw [hd] at d1
    obtain ⟨rfl, rfl, rfl⟩ := Ieee.Datum.number.inj d1
    obtain ⟨a1, a2⟩ := sign_num hd
    obtain ⟨b1, b2⟩ := sign_num dW
    have a3 := self_neq .f32 x
    rw [hd] at a3
    have b3 := self_neq .f64 W
    rw [dW] at b3
    by_cases h0 : m = 0
    · have h0' : m' = 0 := hz.2 h0
      rw [decide_eq_true h0] at a1
      rw [decide_eq_true h0'] at b1
      rw [decide_eq_false (by omega), Bool.and_false] at b2
      refine ⟨some 4286578688, fun w => c_impl_Log_zero x w a1, fun w => ?_⟩
      have := c_spec_Log_of x w (some 18442240474082181120) (.inr (by rw [slim_ninf]; rfl)) (fun wx wy => by rw [hR]; exact c_spec_Log_zero W wx b3 b2 b1)
      rw [slim_ninf] at this
      exact this
    · have h0' : m' ≠ 0 := fun h => h0 (hz.1 h)
      rw [decide_eq_false h0] at a1
      rw [decide_eq_true h0, Bool.and_true] at a2
      rw [decide_eq_true h0', Bool.and_true] at b2
      cases s with
      | true =>
        refine ⟨none, fun w => c_impl_Log_nan x w a1 (.inl a2), fun w => ?_⟩
        exact c_spec_Log_of x w none (.inl rfl) (fun wx wy => by rw [hR]; exact c_spec_Log_nan W wx (.inr ⟨b3, b2⟩))
      | false =>
        obtain ⟨M, i, g1, g2, gi, gi', gR, gD⟩ := wide_pos hd h0
        have hk : endK M = -52 ∨ endK M = -53 := by unfold endK; split <;> omega
        have hok := (bd_logOf (e := i - endK M) g1 g2 (by omega)).slim (by omega)
        refine ⟨_, fun w => c_impl_Log_pos x M i w hl a1 a2 a3 hf g1 g2 gi gi' gR gD hok, fun w => ?_⟩
        exact c_spec_Log_of x w _ hok (fun wx wy => by rw [gR]; exact c_spec_l01LogWide M i wx g1 g2 gi gi')
theorem walk_FnExactLogNumber (a0 : Nat) (w : World) (w0 : (Lit.float .f32 a0).wf = true) :
    Calls Try.prog 8 #[.float .f32 a0] w fun e w' => e = .returned (.bool true) ∧ Below w.heap.size w w' := by
  have h0 := wf32 w0
  clear w0
  obtain ⟨v, c1, c2⟩ := c_both_Log a0 h0
  have C1 := Lib.hid c1
  have C2 := Lib.hid c2
  clear c1 c2
  go_enter Try.func8, Try.ntmps8
  go_wp2_with fail
  refine (C2.out _).mono ?_; rintro e w' ⟨r, n, rfl, rfl, hv⟩
  have HV := Lib.hid hv
  clear hv
  go_wp2_with fail
  refine (C1.out _).mono ?_; rintro e w' ⟨r', n', rfl, rfl, hv'⟩
  have HV' := Lib.hid hv'
  clear hv'
  have hcv : ∀ (wx : World) (y : Nat), (convert 28 22 (.float .f32 y)).run Try.prog wx = .ok (.float .f64 (convR wx .f32 y .f64)) (wx.drewN (convD .f32 y .f64)) := fun wx y => run_conv wx _ _ _ _ _ (by kernel_rfl) (by kernel_rfl)
  go_wp2_with fail
  refine (c_sameFloat _ _ _ (by rw [fv_wideR, fv_wideR, HV.out, HV'.out])).mono ?_; rintro e w' ⟨rfl, m, rfl⟩
  go_wp2
  go_ret
  exact ⟨rfl, wbelow _ _⟩
end Go.Proofs.Ytnjkpapjioeffac
