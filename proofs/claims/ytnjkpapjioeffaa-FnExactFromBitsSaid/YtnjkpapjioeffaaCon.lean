/- What each function of this seat answers: one contract a function, callees first. -/
import Derived.Test.YtnjkpapjioeffaaRows
import Derived.WalkKit
import Derived.ProofKit
import Derived.OpenShut
import Derived.WalkLawsBesides
import Derived.Handy
import Derived.Deep.QuietTactic
import Derived.BigQuiet
import Derived.Lib.Hide
import Derived.Test.YtnjkpapjioeffaaFlo
namespace Go.Proofs.Ytnjkpapjioeffaa
open Go.ChangeShapes Go.WideShapes Go.ChangeAt Go.RowKit Go.Proofs.Ytnjkpapjioeffaa.Flo
set_option linter.unusedVariables false
attribute [local go_sem] run_fl_add run_fl_sub run_fl_mul run_fl_quo run_conv

theorem ext_Float32bits (x : Nat) (w : World) : (callFunc 23 #[.float .f32 x]).run Try.prog w = .ok (.value (.int .u32 x)) w := by
  rw [run_callFunc_extern (fn := Try.f23) (e := Extern.MathFloatBits.float32bits) (by kernel_rfl) (by kernel_rfl) (by kernel_rfl) (by kernel_rfl) (by kernel_rfl)]
  rfl
attribute [local go_sem] ext_Float32bits
theorem ext_Float32frombits (x : Int) (w : World) : (callFunc 26 #[.int .u32 x]).run Try.prog w = .ok (.value (.float .f32 x.toNat)) w := by
  rw [run_callFunc_extern (fn := Try.f26) (e := Extern.MathFloatBits.float32frombits) (by kernel_rfl) (by kernel_rfl) (by kernel_rfl) (by kernel_rfl) (by kernel_rfl)]
  rfl
attribute [local go_sem] ext_Float32frombits
theorem ext_Float64frombits (x : Int) (w : World) : (callFunc 31 #[.int .u64 x]).run Try.prog w = .ok (.value (.float .f64 x.toNat)) w := by
  rw [run_callFunc_extern (fn := Try.f31) (e := Extern.MathFloatBits.float64frombits) (by kernel_rfl) (by kernel_rfl) (by kernel_rfl) (by kernel_rfl) (by kernel_rfl)]
  rfl
attribute [local go_sem] ext_Float64frombits
theorem ext_Float64bits (x : Nat) (w : World) : (callFunc 32 #[.float .f64 x]).run Try.prog w = .ok (.value (.int .u64 x)) w := by
  rw [run_callFunc_extern (fn := Try.f32) (e := Extern.MathFloatBits.float64bits) (by kernel_rfl) (by kernel_rfl) (by kernel_rfl) (by kernel_rfl) (by kernel_rfl)]
  rfl
attribute [local go_sem] ext_Float64bits
/-- math.Abs -/
theorem c_Abs (x : Nat) (w : World) (h : x < 18446744073709551616) : Calls Try.prog 30 #[.float .f64 x] w fun e w' => e = .returned (.float .f64 (x % 9223372036854775808)) ∧ w = w' := by
  have hm := mask63 x h
  have H := Lib.hid hm; clear hm
  go_enter Try.func30, Try.ntmps30
  go_wp2
  go_ret
  exact ⟨by rw [H.out]; rfl, rfl⟩
/-- math.IsNaN -/
theorem c_IsNaN (x : Nat) (w : World) : Calls Try.prog 28 #[.float .f64 x] w fun e w' => e = .returned (.bool (FloatKind.f64.decode x).isNaN) ∧ w = w' := by
  have hs := order_self .f64 x
  have H := Lib.hid hs; clear hs
  go_enter Try.func28, Try.ntmps28
  go_wp2
  go_ret
  exact ⟨by have := H.out; simp only [bne, this]; simp, rfl⟩
/-- math.IsInf at the sign 0 -/
theorem c_IsInf0 (x : Nat) (w : World) (h : x < 18446744073709551616) : Calls Try.prog 29 #[.float .f64 x, .int .i64 0] w fun e w' => e = .returned (.bool (FloatKind.f64.decode x).isInfinity) ∧ w = w' := by
  have hm := abs_gt_max x
  have H := Lib.hid hm; clear hm
  go_enter Try.func29, Try.ntmps29
  go_wp2_with (go_at_call 30; refine (c_Abs _ _ h).mono ?_; rintro e w' ⟨rfl, rfl⟩)
  go_ret
  exact ⟨by rw [← H.out]; rfl, rfl⟩
/-- impl.isFiniteWide -/
theorem c_impl_isFiniteWide (x : Nat) (w : World) (h : x < 18446744073709551616) : Calls Try.prog 21 #[.float .f64 x] w fun e w' => e = .returned (.bool (isFin .f64 x)) ∧ w = w' := by
  have hm := isFin_iff .f64 x
  have H := Lib.hid hm; clear hm
  by_cases hn : (FloatKind.f64.decode x).isNaN = true
  · go_enter Try.func21, Try.ntmps21
    go_wp2_with (first | (go_at_call 28; refine (c_IsNaN _ _).mono ?_; rintro e w' ⟨rfl, rfl⟩) | (go_at_call 29; refine (c_IsInf0 _ _ h).mono ?_; rintro e w' ⟨rfl, rfl⟩))
    go_ret
    exact ⟨by rw [H.out, hn]; rfl, rfl⟩
  · have hn' : (FloatKind.f64.decode x).isNaN = false := by simpa using hn
    go_enter Try.func21, Try.ntmps21
    go_wp2_with (first | (go_at_call 28; refine (c_IsNaN _ _).mono ?_; rintro e w' ⟨rfl, rfl⟩) | (go_at_call 29; refine (c_IsInf0 _ _ h).mono ?_; rintro e w' ⟨rfl, rfl⟩))
    go_ret
    exact ⟨by rw [H.out, hn']; rfl, rfl⟩
/-- impl.IsFinite -/
theorem c_impl_IsFinite (x : Nat) (w : World) (h : x < 4294967296) : Calls Try.prog 11 #[.float .f32 x] w fun e w' => e = .returned (.bool (isFin .f32 x)) ∧ ∃ n, w' = w.drewN n := by
  have hm := wide_finite w x
  have H := Lib.hid hm; clear hm
  have hl : convR w .f32 x .f64 < 18446744073709551616 := convR_lt w .f32 x .f64 h
  go_enter Try.func11, Try.ntmps11
  go_wp2_with (go_at_call 21; refine (c_impl_isFiniteWide _ _ hl).mono ?_; rintro e w' ⟨rfl, rfl⟩)
  go_ret
  exact ⟨by rw [H.out]; rfl, _, rfl⟩
/-- spec.l01Finite -/
theorem c_spec_l01Finite (x : Nat) (w : World) : Calls Try.prog 20 #[.float .f32 x] w fun e w' => e = .returned (.bool (isFin .f32 x)) ∧ ∃ n, w' = w.drewN n := by
  go_enter Try.func20, Try.ntmps20
  go_wp2
  go_ret
  exact ⟨by rw [← sub_self_zero w]; rfl, _, rfl⟩
/-- impl.BitsOf -/
theorem c_impl_BitsOf (x : Nat) (w : World) (h : x < 4294967296) : Calls Try.prog 13 #[.float .f32 x] w fun e w' => e = .returned (.int .i64 ((fv .f32 x).getD 2143289344 : Nat)) ∧ w = w' := by
  have hs := order_self .f32 x
  rcases fv_cases .f32 x with ⟨hn, hf⟩ | ⟨hn, hf⟩
  all_goals
    rw [hn] at hs
    have hs' : (FloatKind.f32.format.order x x != some .eq) = !(FloatKind.f32.format.order x x == some .eq) := rfl
    rw [hs] at hs'
    have H := Lib.hid hf; clear hf hs hn
    go_enter Try.func13, Try.ntmps13
    go_wp2
    go_ret
    exact ⟨by rw [H.out]; rfl, rfl⟩
/-- spec.l01Bits -/
theorem c_spec_l01Bits (x : Nat) (w : World) (h : x < 4294967296) : Calls Try.prog 22 #[.float .f32 x] w fun e w' => e = .returned (.int .i64 ((fv .f32 x).getD 2143289344 : Nat)) ∧ w = w' := by
  have hs := order_self .f32 x
  rcases fv_cases .f32 x with ⟨hn, hf⟩ | ⟨hn, hf⟩
  all_goals
    rw [hn] at hs
    have hs' : (FloatKind.f32.format.order x x != some .eq) = !(FloatKind.f32.format.order x x == some .eq) := rfl
    rw [hs] at hs'
    have H := Lib.hid hf; clear hf hs hn
    go_enter Try.func22, Try.ntmps22
    go_wp2
    go_ret
    exact ⟨by rw [H.out]; rfl, rfl⟩
/-- spec.BitsOf -/
theorem c_spec_BitsOf (x : Nat) (w : World) (h : x < 4294967296) : Calls Try.prog 12 #[.float .f32 x] w fun e w' => e = .returned (.int .i64 ((fv .f32 x).getD 2143289344 : Nat)) ∧ w = w' := by
  go_enter Try.func12, Try.ntmps12
  go_wp2_with (go_at_call 22; refine (c_spec_l01Bits _ _ h).mono ?_; rintro e w' ⟨rfl, rfl⟩)
  go_ret
  exact ⟨rfl, rfl⟩
/-- spec.IsFinite -/
theorem c_spec_IsFinite (x : Nat) (w : World) : Calls Try.prog 10 #[.float .f32 x] w fun e w' => e = .returned (.bool (isFin .f32 x)) ∧ ∃ n, w' = w.drewN n := by
  go_enter Try.func10, Try.ntmps10
  go_wp2_with (go_at_call 20; refine (c_spec_l01Finite _ _).mono ?_; rintro e w' ⟨rfl, n, rfl⟩)
  go_ret
  exact ⟨rfl, _, rfl⟩
/-- impl.SameNumber -/
theorem c_impl_SameNumber (x y : Nat) (w : World) (h : x < 4294967296) (h' : y < 4294967296) : Calls Try.prog 9 #[.float .f32 x, .float .f32 y] w fun e w' => e = .returned (.bool (((fv .f32 x).getD 2143289344 : Nat) == ((fv .f32 y).getD 2143289344 : Nat) : Bool)) ∧ ∃ n, w' = w.drewN n := by
  go_enter Try.func9, Try.ntmps9
  go_wp2_with (go_at_call 13; refine (c_impl_BitsOf _ _ (by assumption)).mono ?_; rintro e w' ⟨rfl, rfl⟩)
  go_ret
  exact ⟨by rw [← natBeq]; rfl, 0, rfl⟩
/-- spec.l01Same -/
theorem c_spec_l01Same (x y : Nat) (w : World) (h : x < 4294967296) (h' : y < 4294967296) : Calls Try.prog 19 #[.float .f32 x, .float .f32 y] w fun e w' => e = .returned (.bool (((fv .f32 x).getD 2143289344 : Nat) == ((fv .f32 y).getD 2143289344 : Nat) : Bool)) ∧ ∃ n, w' = w.drewN n := by
  go_enter Try.func19, Try.ntmps19
  go_wp2_with (go_at_call 22; refine (c_spec_l01Bits _ _ (by assumption)).mono ?_; rintro e w' ⟨rfl, rfl⟩)
  go_ret
  exact ⟨by rw [← natBeq]; rfl, 0, rfl⟩
/-- spec.SameNumber -/
theorem c_spec_SameNumber (x y : Nat) (w : World) (h : x < 4294967296) (h' : y < 4294967296) : Calls Try.prog 8 #[.float .f32 x, .float .f32 y] w fun e w' => e = .returned (.bool (((fv .f32 x).getD 2143289344 : Nat) == ((fv .f32 y).getD 2143289344 : Nat) : Bool)) ∧ ∃ n, w' = w.drewN n := by
  go_enter Try.func8, Try.ntmps8
  go_wp2_with (go_at_call 19; refine (c_spec_l01Same _ _ _ h h').mono ?_; rintro e w' ⟨rfl, n, rfl⟩)
  go_ret
  exact ⟨rfl, _, rfl⟩
/-- impl.FromBits -/
theorem c_impl_FromBits (n : Int) (w : World) : Calls Try.prog 15 #[.int .i64 n] w fun e w' => e = .returned (.tuple #[.float .f32 (fbV n), .bool (fbOk n)]) ∧ w = w' := by
  by_cases h1 : n < 0
  · obtain ⟨e1, e2⟩ := fb_no (n := n) (by omega)
    have H1 := Lib.hid e1; have H2 := Lib.hid e2; clear e1 e2
    go_enter Try.func15, Try.ntmps15
    go_wp2
    go_ret2
    exact ⟨by rw [H1.out, H2.out]; rfl, rfl⟩
  · have h1' : 0 ≤ n := by omega
    by_cases h2 : n ≤ 4294967295
    · obtain ⟨e1, e2⟩ := fb_yes h1' h2
      have H1 := Lib.hid e1; have H2 := Lib.hid e2; clear e1 e2
      go_enter Try.func15, Try.ntmps15
      go_wp2
      go_ret2
      exact ⟨by rw [H1.out, H2.out]; rfl, rfl⟩
    · obtain ⟨e1, e2⟩ := fb_no (n := n) (by omega)
      have H1 := Lib.hid e1; have H2 := Lib.hid e2; clear e1 e2
      go_enter Try.func15, Try.ntmps15
      go_wp2
      go_ret2
      exact ⟨by rw [H1.out, H2.out]; rfl, rfl⟩
/-- spec.FromBits -/
theorem c_spec_FromBits (n : Int) (w : World) : Calls Try.prog 14 #[.int .i64 n] w fun e w' => e = .returned (.tuple #[.float .f32 (fbV n), .bool (fbOk n)]) ∧ w = w' := by
  by_cases h1 : n < 0
  · obtain ⟨e1, e2⟩ := fb_no (n := n) (by omega)
    have H1 := Lib.hid e1; have H2 := Lib.hid e2; clear e1 e2
    go_enter Try.func14, Try.ntmps14
    go_wp2
    go_ret2
    exact ⟨by rw [H1.out, H2.out]; rfl, rfl⟩
  · have h1' : 0 ≤ n := by omega
    by_cases h2 : n ≤ 4294967295
    · obtain ⟨e1, e2⟩ := fb_yes h1' h2
      have H1 := Lib.hid e1; have H2 := Lib.hid e2; clear e1 e2
      go_enter Try.func14, Try.ntmps14
      go_wp2
      go_ret2
      exact ⟨by rw [H1.out, H2.out]; rfl, rfl⟩
    · obtain ⟨e1, e2⟩ := fb_no (n := n) (by omega)
      have H1 := Lib.hid e1; have H2 := Lib.hid e2; clear e1 e2
      go_enter Try.func14, Try.ntmps14
      go_wp2
      go_ret2
      exact ⟨by rw [H1.out, H2.out]; rfl, rfl⟩
/-- laws.sameFloat: at values that are the same -/
theorem c_sameFloat (x y : Nat) (w : World) (h : fv .f64 x = fv .f64 y) : Calls Try.prog 16 #[.float .f64 x, .float .f64 y] w fun e w' => e = .returned (.bool true) ∧ ∃ n, w' = w.drewN n := by
  have hx := order_self .f64 x
  have hy := order_self .f64 y
  rcases fv_cases .f64 x with ⟨hn, hf⟩ | ⟨hn, hf⟩
  · rcases fv_cases .f64 y with ⟨hn', hf'⟩ | ⟨hn', hf'⟩
    · rw [hn] at hx
      rw [hn'] at hy
      have hx' : (FloatKind.f64.format.order x x != some .eq) = !(FloatKind.f64.format.order x x == some .eq) := rfl
      rw [hx] at hx'
      have hy' : (FloatKind.f64.format.order y y != some .eq) = !(FloatKind.f64.format.order y y == some .eq) := rfl
      rw [hy] at hy'
      clear h hf hf' hn hn' hx hy
      go_enter Try.func16, Try.ntmps16
      go_wp2
      go_ret
      exact ⟨rfl, 0, rfl⟩
    · rw [hf, hf'] at h; cases h
  · rcases fv_cases .f64 y with ⟨hn', hf'⟩ | ⟨hn', hf'⟩
    · rw [hf, hf'] at h; cases h
    · rw [hf, hf'] at h
      obtain rfl := Option.some.inj h
      rw [hn] at hx
      have hx' : (FloatKind.f64.format.order x x != some .eq) = !(FloatKind.f64.format.order x x == some .eq) := rfl
      rw [hx] at hx'
      have HX := Lib.hid hx
      clear h hf hf' hn hn' hy hx
      go_enter Try.func16, Try.ntmps16
      go_wp2
      · go_ret
        exact ⟨ret_bool (by rw [order_flR, order_flR]; simp), _, rfl⟩
      · go_ret
        exact ⟨by have := HX.out; simp [this], 0, rfl⟩
end Go.Proofs.Ytnjkpapjioeffaa
