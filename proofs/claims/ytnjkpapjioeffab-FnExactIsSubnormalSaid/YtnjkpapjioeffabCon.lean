/- What each function of this seat answers: one contract a function, callees first. -/
import Derived.Test.YtnjkpapjioeffabRows
import Derived.WalkKit
import Derived.ProofKit
import Derived.OpenShut
import Derived.WalkLawsBesides
import Derived.Handy
import Derived.Deep.QuietTactic
import Derived.BigQuiet
import Derived.Lib.Hide
import Derived.Test.YtnjkpapjioeffabFlo
namespace Go.Proofs.Ytnjkpapjioeffab
open Go.ChangeShapes Go.WideShapes Go.ChangeAt Go.RowKit Go.Proofs.Ytnjkpapjioeffab.Flo
set_option linter.unusedVariables false
attribute [local go_sem] run_fl_add run_fl_sub run_fl_mul run_fl_quo run_conv run_store_float run_store_complex

theorem ext_Float32bits (x : Nat) (w : World) : (callFunc 54 #[.float .f32 x]).run Try.prog w = .ok (.value (.int .u32 x)) w := by
  rw [run_callFunc_extern (fn := Try.f54) (e := Extern.MathFloatBits.float32bits) (by kernel_rfl) (by kernel_rfl) (by kernel_rfl) (by kernel_rfl) (by kernel_rfl)]
  rfl
attribute [local go_sem] ext_Float32bits
theorem ext_Float32frombits (x : Int) (w : World) : (callFunc 67 #[.int .u32 x]).run Try.prog w = .ok (.value (.float .f32 x.toNat)) w := by
  rw [run_callFunc_extern (fn := Try.f67) (e := Extern.MathFloatBits.float32frombits) (by kernel_rfl) (by kernel_rfl) (by kernel_rfl) (by kernel_rfl) (by kernel_rfl)]
  rfl
attribute [local go_sem] ext_Float32frombits
theorem ext_Float64frombits (x : Int) (w : World) : (callFunc 55 #[.int .u64 x]).run Try.prog w = .ok (.value (.float .f64 x.toNat)) w := by
  rw [run_callFunc_extern (fn := Try.f55) (e := Extern.MathFloatBits.float64frombits) (by kernel_rfl) (by kernel_rfl) (by kernel_rfl) (by kernel_rfl) (by kernel_rfl)]
  rfl
attribute [local go_sem] ext_Float64frombits
theorem ext_Float64bits (x : Nat) (w : World) : (callFunc 56 #[.float .f64 x]).run Try.prog w = .ok (.value (.int .u64 x)) w := by
  rw [run_callFunc_extern (fn := Try.f56) (e := Extern.MathFloatBits.float64bits) (by kernel_rfl) (by kernel_rfl) (by kernel_rfl) (by kernel_rfl) (by kernel_rfl)]
  rfl
attribute [local go_sem] ext_Float64bits
theorem ext_sqrt (x : Nat) (w : World) : (callFunc 53 #[.float .f64 x]).run Try.prog w = .ok (.value (.float .f64 (sqR w x))) (w.drewN (sqD x)) := by
  rw [run_callFunc_extern (fn := Try.f53) (e := Extern.MathSqrt.sqrt) (by kernel_rfl) (by kernel_rfl) (by kernel_rfl) (by kernel_rfl) (by kernel_rfl), run_sqrt]
  rfl
attribute [local go_sem] ext_sqrt
/-- math.Abs -/
theorem c_Abs (x : Nat) (w : World) (h : x < 18446744073709551616) : Calls Try.prog 37 #[.float .f64 x] w fun e w' => e = .returned (.float .f64 (x % 9223372036854775808)) ∧ w = w' := by
  have hm := mask63 x h
  have H := Lib.hid hm; clear hm
  go_enter Try.func37, Try.ntmps37
  go_wp2
  go_ret
  exact ⟨by rw [H.out]; rfl, rfl⟩
/-- spec.l01Bits -/
theorem c_spec_l01Bits (x : Nat) (w : World) (h : x < 4294967296) : Calls Try.prog 36 #[.float .f32 x] w fun e w' => e = .returned (.int .i64 ((fv .f32 x).getD 2143289344 : Nat)) ∧ w = w' := by
  have hs := order_self .f32 x
  rcases fv_cases .f32 x with ⟨hn, hf⟩ | ⟨hn, hf⟩
  all_goals
    rw [hn] at hs
    have hs' : (FloatKind.f32.format.order x x != some .eq) = !(FloatKind.f32.format.order x x == some .eq) := rfl
    rw [hs] at hs'
    have H := Lib.hid hf; clear hf hs hn
    go_enter Try.func36, Try.ntmps36
    go_wp2
    go_ret
    exact ⟨by rw [H.out]; rfl, rfl⟩
/-- spec.l01Same -/
theorem c_spec_l01Same (x y : Nat) (w : World) (h : x < 4294967296) (h' : y < 4294967296) : Calls Try.prog 66 #[.float .f32 x, .float .f32 y] w fun e w' => e = .returned (.bool (((fv .f32 x).getD 2143289344 : Nat) == ((fv .f32 y).getD 2143289344 : Nat) : Bool)) ∧ ∃ n, w' = w.drewN n := by
  go_enter Try.func66, Try.ntmps66
  go_wp2_with (go_at_call 36; refine (c_spec_l01Bits _ _ (by assumption)).mono ?_; rintro e w' ⟨rfl, rfl⟩)
  go_ret
  exact ⟨by rw [← natBeq]; rfl, 0, rfl⟩
/-- laws.sameFloat: at values that are the same -/
theorem c_sameFloat (x y : Nat) (w : World) (h : fv .f64 x = fv .f64 y) : Calls Try.prog 11 #[.float .f64 x, .float .f64 y] w fun e w' => e = .returned (.bool true) ∧ ∃ n, w' = w.drewN n := by
  have hx := order_self .f64 x
  have hy := order_self .f64 y
  rcases fv_cases .f64 x with ⟨hn, hf⟩ | ⟨hn, hf⟩
  · rcases fv_cases .f64 y with ⟨hn', hf'⟩ | ⟨hn', hf'⟩
    · rw [hn] at hx
      rw [hn'] at hy
      have hx' : (FloatKind.f64.format.order x x != some .eq) = !(FloatKind.f64.format.order x x == some .eq) := rfl
      rw [hx] at hx'
      have hy' : (FloatKind.f64.format.order y y != some .eq) = !(FloatKind.f64.format.order y y == some .eq) := rfl
      rw [hy] at hy'
      clear h hf hf' hn hn' hx hy
      go_enter Try.func11, Try.ntmps11
      go_wp2
      go_ret
      exact ⟨rfl, 0, rfl⟩
    · rw [hf, hf'] at h; cases h
  · rcases fv_cases .f64 y with ⟨hn', hf'⟩ | ⟨hn', hf'⟩
    · rw [hf, hf'] at h; cases h
    · rw [hf, hf'] at h
      obtain rfl := Option.some.inj h
      rw [hn] at hx
      have hx' : (FloatKind.f64.format.order x x != some .eq) = !(FloatKind.f64.format.order x x == some .eq) := rfl
      rw [hx] at hx'
      have HX := Lib.hid hx
      clear h hf hf' hn hn' hy hx
      go_enter Try.func11, Try.ntmps11
      go_wp2
      · go_ret
        exact ⟨ret_bool (by rw [order_flR, order_flR]; simp), _, rfl⟩
      · go_ret
        exact ⟨by have := HX.out; simp [this], 0, rfl⟩
end Go.Proofs.Ytnjkpapjioeffab
