/- What each function of this seat answers: one contract a function, callees first. -/
import Derived.Test.YtfbapbgiegploaaRows
import Derived.WalkKit
import Derived.ProofKit
import Derived.OpenShut
import Derived.WalkLawsBesides
import Derived.Handy
import Derived.Deep.QuietTactic
import Derived.BigQuiet
import Derived.Lib.Hide
import Derived.Test.YtfbapbgiegploaaFlo
namespace Go.Proofs.Ytfbapbgiegploaa
open Go.ChangeShapes Go.WideShapes Go.ChangeAt Go.RowKit Go.Proofs.Ytfbapbgiegploaa.Flo
set_option linter.unusedVariables false
attribute [local go_sem] run_fl_add run_fl_sub run_fl_mul run_fl_quo run_conv run_store_float run_store_complex

theorem ext_Float64frombits (x : Int) (w : World) : (callFunc 276 #[.int .u64 x]).run Try.prog w = .ok (.value (.float .f64 x.toNat)) w := by
  rw [run_callFunc_extern (fn := Try.f276) (e := Extern.MathFloatBits.float64frombits) (by kernel_rfl) (by kernel_rfl) (by kernel_rfl) (by kernel_rfl) (by kernel_rfl)]
  rfl
attribute [local go_sem] ext_Float64frombits
theorem ext_Float64bits (x : Nat) (w : World) : (callFunc 328 #[.float .f64 x]).run Try.prog w = .ok (.value (.int .u64 x)) w := by
  rw [run_callFunc_extern (fn := Try.f328) (e := Extern.MathFloatBits.float64bits) (by kernel_rfl) (by kernel_rfl) (by kernel_rfl) (by kernel_rfl) (by kernel_rfl)]
  rfl
attribute [local go_sem] ext_Float64bits
/-- math.Abs -/
theorem c_Abs (x : Nat) (w : World) (h : x < 18446744073709551616) : Calls Try.prog 315 #[.float .f64 x] w fun e w' => e = .returned (.float .f64 (x % 9223372036854775808)) ∧ w = w' := by
  have hm := mask63 x h
  have H := Lib.hid hm; clear hm
  go_enter Try.func315, Try.ntmps315
  go_wp2
  go_ret
  exact ⟨by rw [H.out]; rfl, rfl⟩
/-- math.IsNaN -/
theorem c_IsNaN (x : Nat) (w : World) : Calls Try.prog 289 #[.float .f64 x] w fun e w' => e = .returned (.bool (FloatKind.f64.decode x).isNaN) ∧ w = w' := by
  have hs := order_self .f64 x
  have H := Lib.hid hs; clear hs
  go_enter Try.func289, Try.ntmps289
  go_wp2
  go_ret
  exact ⟨by have := H.out; simp only [bne, this]; simp, rfl⟩
/-- math.IsInf at the sign 0 -/
theorem c_IsInf0 (x : Nat) (w : World) (h : x < 18446744073709551616) : Calls Try.prog 290 #[.float .f64 x, .int .i64 0] w fun e w' => e = .returned (.bool (FloatKind.f64.decode x).isInfinity) ∧ w = w' := by
  have hm := abs_gt_max x
  have H := Lib.hid hm; clear hm
  go_enter Try.func290, Try.ntmps290
  go_wp2_with (go_at_call 315; refine (c_Abs _ _ h).mono ?_; rintro e w' ⟨rfl, rfl⟩)
  go_ret
  exact ⟨by rw [← H.out]; rfl, rfl⟩
/-- impl.isFiniteWide -/
theorem c_impl_isFiniteWide (x : Nat) (w : World) (h : x < 18446744073709551616) : Calls Try.prog 244 #[.float .f64 x] w fun e w' => e = .returned (.bool (isFin .f64 x)) ∧ w = w' := by
  have hm := isFin_iff .f64 x
  have H := Lib.hid hm; clear hm
  by_cases hn : (FloatKind.f64.decode x).isNaN = true
  · go_enter Try.func244, Try.ntmps244
    go_wp2_with (first | (go_at_call 289; refine (c_IsNaN _ _).mono ?_; rintro e w' ⟨rfl, rfl⟩) | (go_at_call 290; refine (c_IsInf0 _ _ h).mono ?_; rintro e w' ⟨rfl, rfl⟩))
    go_ret
    exact ⟨by rw [H.out, hn]; rfl, rfl⟩
  · have hn' : (FloatKind.f64.decode x).isNaN = false := by simpa using hn
    go_enter Try.func244, Try.ntmps244
    go_wp2_with (first | (go_at_call 289; refine (c_IsNaN _ _).mono ?_; rintro e w' ⟨rfl, rfl⟩) | (go_at_call 290; refine (c_IsInf0 _ _ h).mono ?_; rintro e w' ⟨rfl, rfl⟩))
    go_ret
    exact ⟨by rw [H.out, hn']; rfl, rfl⟩
/-- impl.IsFinite -/
theorem c_impl_IsFinite (x : Nat) (w : World) (h : x < 4294967296) : Calls Try.prog 167 #[.float .f32 x] w fun e w' => e = .returned (.bool (isFin .f32 x)) ∧ ∃ n, w' = w.drewN n := by
  have hm := wide_finite w x
  have H := Lib.hid hm; clear hm
  have hl : convR w .f32 x .f64 < 18446744073709551616 := convR_lt w .f32 x .f64 h
  go_enter Try.func167, Try.ntmps167
  go_wp2_with (go_at_call 244; refine (c_impl_isFiniteWide _ _ hl).mono ?_; rintro e w' ⟨rfl, rfl⟩)
  go_ret
  exact ⟨by rw [H.out]; rfl, _, rfl⟩
/-- spec.l01Finite -/
theorem c_spec_l01Finite (x : Nat) (w : World) : Calls Try.prog 170 #[.float .f32 x] w fun e w' => e = .returned (.bool (isFin .f32 x)) ∧ ∃ n, w' = w.drewN n := by
  go_enter Try.func170, Try.ntmps170
  go_wp2
  go_ret
  exact ⟨by rw [← sub_self_zero w]; rfl, _, rfl⟩
/-- laws.sameFloat: at values that are the same -/
theorem c_sameFloat (x y : Nat) (w : World) (h : fv .f64 x = fv .f64 y) : Calls Try.prog 73 #[.float .f64 x, .float .f64 y] w fun e w' => e = .returned (.bool true) ∧ ∃ n, w' = w.drewN n := by
  have hx := order_self .f64 x
  have hy := order_self .f64 y
  rcases fv_cases .f64 x with ⟨hn, hf⟩ | ⟨hn, hf⟩
  · rcases fv_cases .f64 y with ⟨hn', hf'⟩ | ⟨hn', hf'⟩
    · rw [hn] at hx
      rw [hn'] at hy
      have hx' : (FloatKind.f64.format.order x x != some .eq) = !(FloatKind.f64.format.order x x == some .eq) := rfl
      rw [hx] at hx'
      have hy' : (FloatKind.f64.format.order y y != some .eq) = !(FloatKind.f64.format.order y y == some .eq) := rfl
      rw [hy] at hy'
      clear h hf hf' hn hn' hx hy
      go_enter Try.func73, Try.ntmps73
      go_wp2
      go_ret
      exact ⟨rfl, 0, rfl⟩
    · rw [hf, hf'] at h; cases h
  · rcases fv_cases .f64 y with ⟨hn', hf'⟩ | ⟨hn', hf'⟩
    · rw [hf, hf'] at h; cases h
    · rw [hf, hf'] at h
      obtain rfl := Option.some.inj h
      rw [hn] at hx
      have hx' : (FloatKind.f64.format.order x x != some .eq) = !(FloatKind.f64.format.order x x == some .eq) := rfl
      rw [hx] at hx'
      have HX := Lib.hid hx
      clear h hf hf' hn hn' hy hx
      go_enter Try.func73, Try.ntmps73
      go_wp2
      · go_ret
        exact ⟨ret_bool (by rw [order_flR, order_flR]; simp), _, rfl⟩
      · go_ret
        exact ⟨by have := HX.out; simp [this], 0, rfl⟩
end Go.Proofs.Ytfbapbgiegploaa
