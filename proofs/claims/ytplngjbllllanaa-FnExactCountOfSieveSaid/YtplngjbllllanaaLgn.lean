/- LogNumber: both functions answer the same; the law's walk. -/
import Derived.Test.YtplngjbllllanaaLog
namespace Go.Proofs.Ytplngjbllllanaa
open Go.ChangeShapes Go.WideShapes Go.ChangeAt Go.RowKit Go.Proofs.Ytplngjbllllanaa.Flo
set_option linter.unusedVariables false
attribute [local go_sem] unary_neg_float run_store_float run_store_complex ext_Float64bits ext_Float64frombits

/-- a positive finite 32-bit float, widened, has 53 digits -/
theorem wide_pos {x : Nat} {m : Nat} {e : Int} (hd : FloatKind.f32.decode x = .number false m e) (h0 : m ≠ 0) : ∃ M i, 4503599627370496 ≤ M ∧ M < 9007199254740992 ∧ -210 ≤ i ∧ i ≤ 80 ∧ (∀ w, convR w .f32 x .f64 = wd M i) ∧ convD .f32 x .f64 = 0 := by
  obtain ⟨h1, h2, h3, _⟩ := decode32_number hd
  have hl := log2_lt24 h0 h1
  obtain ⟨b1, b2⟩ := shl_bounds h0 (n := 52) (by omega)
  have hW := widen_number hd
  refine ⟨m * 2 ^ (52 - m.log2), e - (52 - m.log2 : Nat), b1, b2, by omega, by omega, fun w => ?_, ?_⟩
  · unfold convR
    rw [hW, Option.getD_some, encode64 h0 h1 h2 h3]
    unfold wd
    show (e + (m.log2 : Int) + 1022).toNat * 4503599627370496 + m * 2 ^ (52 - m.log2) = _
    have : (e + (m.log2 : Int) + 1022).toNat = (e - ((52 - m.log2 : Nat) : Int) + 1074).toNat := by omega
    rw [this]
  · unfold convD; rw [hW]; rfl
theorem sign_inf {k : FloatKind} {x : Nat} {s : Bool} (hd : k.decode x = .infinity s) : (k.format.order x 0 == some .eq) = false ∧ (k.format.order x 0 == some .lt) = s := by
  have hz : ∃ l, k.decode 0 = .number false 0 l := by cases k; exact ⟨-149, rfl⟩; exact ⟨-1074, rfl⟩
  obtain ⟨l, hl⟩ := hz
  have h2 : k.format.order x 0 = (k.decode x).order (k.decode 0) := rfl
  rw [h2, hd, hl]
  cases s <;> exact ⟨rfl, rfl⟩
theorem sign_nan {k : FloatKind} {x : Nat} {s : Bool} {t : Nat} (hd : k.decode x = .nan s t) : (k.format.order x 0 == some .eq) = false ∧ (k.format.order x 0 == some .lt) = false := by
  have h2 : k.format.order x 0 = (k.decode x).order (k.decode 0) := rfl
  rw [h2, order_nan_left (by rw [hd]; rfl)]
  exact ⟨rfl, rfl⟩
theorem self_neq (k : FloatKind) (x : Nat) : (k.format.order x x != some .eq) = (k.decode x).isNaN := by
  rw [bne_of_beq (order_self k x)]; cases (k.decode x).isNaN <;> rfl
theorem c_Inf_neg (w : World) : Calls Try.prog 159 #[.int .i64 (-1)] w fun e w' => e = .returned (.float .f64 18442240474082181120) ∧ w = w' := by
  go_enter Try.func159, Try.ntmps159
  go_wp2
  go_ret
  exact ⟨rfl, rfl⟩
theorem ninf64 : fv .f64 18442240474082181120 = some 18442240474082181120 := by kernel_rfl
theorem slim_ninf : slim (some 18442240474082181120) = some 4286578688 := by kernel_rfl
theorem ninf_ok : slimOk (fv .f64 18442240474082181120) := by rw [ninf64]; exact .inr (by rw [slim_ninf]; rfl)
theorem c_impl_Log_zero (x : Nat) (w : World) (h : (FloatKind.f32.format.order x 0 == some .eq) = true) : Calls Try.prog 106 #[.float .f32 x] w (RetG .f32 (some 4286578688) w) := by
  have hcn : ∀ wx : World, (convert 32 25 (.float .f64 18442240474082181120)).run Try.prog wx = .ok (.float .f32 (convR wx .f64 18442240474082181120 .f32)) (wx.drewN (convD .f64 18442240474082181120 .f32)) := fun wx => run_conv wx _ _ _ _ _ (by kernel_rfl) (by kernel_rfl)
  go_enter Try.func106, Try.ntmps106
  go_wp2_with (go_at_call 159; refine (c_Inf_neg _).mono ?_; rintro e w' ⟨rfl, rfl⟩)
  go_ret
  exact RetG.mk _ (by rw [fv_slimR _ _ ninf_ok, ninf64, slim_ninf])
theorem c_impl_Log_nan (x : Nat) (w : World) (h : (FloatKind.f32.format.order x 0 == some .eq) = false) (h2 : (FloatKind.f32.format.order x 0 == some .lt) = true ∨ ((FloatKind.f32.format.order x 0 == some .lt) = false ∧ (FloatKind.f32.format.order x x != some .eq) = true)) : Calls Try.prog 106 #[.float .f32 x] w (RetG .f32 none w) := by
  have hcn : ∀ wx : World, (convert 32 25 (.float .f64 9221120237041090561)).run Try.prog wx = .ok (.float .f32 (convR wx .f64 9221120237041090561 .f32)) (wx.drewN (convD .f64 9221120237041090561 .f32)) := fun wx => run_conv wx _ _ _ _ _ (by kernel_rfl) (by kernel_rfl)
  rcases h2 with h2 | ⟨h2, h3⟩
  all_goals
    go_enter Try.func106, Try.ntmps106
    go_wp2_with (go_at_call 160; refine (c_math_NaN _).mono ?_; rintro e w' ⟨rfl, rfl⟩)
    go_ret
    exact RetG.mk _ (by rw [fv_slimR _ _ (.inl nan64), nan64]; rfl)
theorem c_impl_Log_inf (x : Nat) (w : World) (hl : x < 4294967296) (h : (FloatKind.f32.format.order x 0 == some .eq) = false) (h2 : (FloatKind.f32.format.order x 0 == some .lt) = false) (h3 : (FloatKind.f32.format.order x x != some .eq) = false) (hf : isFin .f32 x = false) : Calls Try.prog 106 #[.float .f32 x] w (RetG .f32 (fv .f32 x) w) := by
  have C := fun (wx : World) => c_impl_IsFinite x wx hl
  rw [hf] at C
  have HC := Lib.hid C
  clear C hf
  go_enter Try.func106, Try.ntmps106
  go_wp2_with (go_at_call 161; refine (HC.out _).mono ?_; rintro e w' ⟨rfl, n, rfl⟩)
  go_ret
  exact RetG.mk _ rfl
theorem c_impl_Log_pos (x M : Nat) (i : Int) (w : World) (hl : x < 4294967296) (h : (FloatKind.f32.format.order x 0 == some .eq) = false) (h2 : (FloatKind.f32.format.order x 0 == some .lt) = false) (h3 : (FloatKind.f32.format.order x x != some .eq) = false) (hf : isFin .f32 x = true)
    (g1 : 4503599627370496 ≤ M) (g2 : M < 9007199254740992) (hi : -210 ≤ i) (hi' : i ≤ 80) (hR : ∀ w, convR w .f32 x .f64 = wd M i) (hD : convD .f32 x .f64 = 0) (hok : slimOk (logOf (logS (fv .f64 (wd M (endK M)))) (i - endK M))) :
    Calls Try.prog 106 #[.float .f32 x] w (RetG .f32 (slim (logOf (logS (fv .f64 (wd M (endK M)))) (i - endK M))) w) := by
  have hcv : ∀ wx : World, (convert 25 32 (.float .f32 x)).run Try.prog wx = .ok (.float .f64 (wd M i)) wx := fun wx => by
    rw [run_conv wx _ _ _ _ _ (by kernel_rfl) (by kernel_rfl), hR, hD]; rfl
  have C := fun (wx : World) => c_impl_IsFinite x wx hl
  rw [hf] at C
  have HC := Lib.hid C
  have HO := Lib.hid hok
  have CL := Lib.hid (fun (wx : World) => c_impl_wideLog M i wx g1 g2 hi hi')
  clear C hf hok g1 g2 hi hi' hR hD
  go_enter Try.func106, Try.ntmps106
  go_wp2_with (go_at_call 161; refine (HC.out _).mono ?_; rintro e w' ⟨rfl, n, rfl⟩)
  refine (CL.out _).mono ?_; rintro e w' ⟨r, k, rfl, rfl, hr⟩
  have HR := Lib.hid hr
  clear hr hcv
  have hcn : ∀ wx : World, (convert 32 25 (.float .f64 r)).run Try.prog wx = .ok (.float .f32 (convR wx .f64 r .f32)) (wx.drewN (convD .f64 r .f32)) := fun wx => run_conv wx _ _ _ _ _ (by kernel_rfl) (by kernel_rfl)
  go_wp2_with go_in
  go_ret
  refine RetG.mk _ ?_
  have ho := HO.out
  rw [← HR.out] at ho
  rw [fv_slimR _ _ ho, HR.out]
end Go.Proofs.Ytplngjbllllanaa
