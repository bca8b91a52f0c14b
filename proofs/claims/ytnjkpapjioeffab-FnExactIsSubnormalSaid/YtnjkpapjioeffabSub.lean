/- IsSubnormal, FlushNumber: what both functions answer; the laws' walks. -/
import Derived.Test.YtnjkpapjioeffabCon
import Derived.Test.YtnjkpapjioeffabFsb
import Derived.Test.YtnjkpapjioeffabLaw1
namespace Go.Proofs.Ytnjkpapjioeffab
open Go.ChangeShapes Go.WideShapes Go.ChangeAt Go.RowKit Go.Proofs.Ytnjkpapjioeffab.Flo
set_option linter.unusedVariables false
attribute [local go_sem] run_fl_add run_fl_sub run_fl_mul run_fl_quo run_conv run_store_float run_store_complex ext_Float32bits ext_Float64bits ext_Float32frombits ext_Float64frombits
theorem subB_zero {x : Nat} (h : x % 2147483648 = 0) : subB x = false := decide_eq_false (by omega)
theorem subB_not {x : Nat} (h : ¬ x % 2147483648 = 0) : subB x = decide (x % 2147483648 < 8388608) := by
  unfold subB
  by_cases h2 : x % 2147483648 < 8388608
  · rw [decide_eq_true h2, decide_eq_true ⟨h, h2⟩]
  · rw [decide_eq_false h2, decide_eq_false (by omega)]
theorem c_impl_IsSubnormal (x : Nat) (w : World) (h : x < 4294967296) : Calls Try.prog 13 #[.float .f32 x] w fun e w' => e = .returned (.bool (subB x)) ∧ ∃ n, w' = w.drewN n := by
  have hl : convR w .f32 x .f64 < 18446744073709551616 := convR_lt w .f32 x .f64 h
  have h0 := order_zero x
  have h1 := Lib.hid (abs_lt w x)
  by_cases hz : x % 2147483648 = 0
  · rw [decide_eq_true hz] at h0
    have h0' : (FloatKind.f32.format.order x 0 != some .eq) = false := by unfold bne; rw [h0]; rfl
    have HS := Lib.hid (subB_zero hz)
    clear hz h0
    go_enter Try.func13, Try.ntmps13
    go_wp2
    go_ret
    exact ⟨by rw [HS.out]; rfl, 0, rfl⟩
  · rw [decide_eq_false hz] at h0
    have h0' : (FloatKind.f32.format.order x 0 != some .eq) = true := by unfold bne; rw [h0]; rfl
    have HS := Lib.hid (subB_not hz)
    clear hz h0
    go_enter Try.func13, Try.ntmps13
    go_wp2_with (go_at_call 37; refine (c_Abs _ _ hl).mono ?_; rintro e w' ⟨rfl, rfl⟩)
    go_ret
    exact ⟨by rw [HS.out, ← h1.out]; rfl, _, rfl⟩
theorem c_spec_IsSubnormal (x : Nat) (w : World) (h : x < 4294967296) : Calls Try.prog 12 #[.float .f32 x] w fun e w' => e = .returned (.bool (subB x)) ∧ ∃ n, w' = w.drewN n := by
  have h0 := order_zero x
  have h1 := Lib.hid (expo_zero x h)
  by_cases hz : x % 2147483648 = 0
  · rw [decide_eq_true hz] at h0
    have h0' : (FloatKind.f32.format.order x 0 != some .eq) = false := by unfold bne; rw [h0]; rfl
    have HS := Lib.hid (subB_zero hz)
    clear hz h0
    go_enter Try.func12, Try.ntmps12
    go_wp2
    go_ret
    exact ⟨by rw [HS.out]; rfl, 0, rfl⟩
  · rw [decide_eq_false hz] at h0
    have h0' : (FloatKind.f32.format.order x 0 != some .eq) = true := by unfold bne; rw [h0]; rfl
    have HS := Lib.hid (subB_not hz)
    clear hz h0
    go_enter Try.func12, Try.ntmps12
    go_wp2_with (go_at_call 36; refine (c_spec_l01Bits _ _ h).mono ?_; rintro e w' ⟨rfl, rfl⟩)
    go_ret
    exact ⟨by rw [HS.out, ← h1.out]; rfl, 0, rfl⟩
theorem c_spec_l01From (n : Int) (w : World) (h0 : 0 ≤ n) (h1 : n < 4294967296) : Calls Try.prog 57 #[.int .i64 n] w fun e w' => e = .returned (.float .f32 n.toNat) ∧ w = w' := by
  go_enter Try.func57, Try.ntmps57
  go_wp2
  go_ret
  exact ⟨rfl, rfl⟩
theorem c_spec_l01Flush (x : Nat) (w : World) (h : x < 4294967296) : Calls Try.prog 38 #[.float .f32 x] w fun e w' => e = .returned (.float .f32 (flV x)) ∧ ∃ n, w' = w.drewN n := by
  have h1 := expo_zero x h
  by_cases hs : x % 2147483648 < 8388608
  · rw [decide_eq_true hs] at h1
    have hb := sign_bit x h hs
    have hlt := flV_lt x h
    have HB := Lib.hid hb
    clear hb hs
    go_enter Try.func38, Try.ntmps38
    go_wp2_with (first | (go_at_call 36; refine (c_spec_l01Bits _ _ h).mono ?_; rintro e w' ⟨rfl, rfl⟩) | (go_at_call 57; rw [HB.out]; refine (c_spec_l01From _ _ (by omega) (by omega)).mono ?_; rintro e w' ⟨rfl, rfl⟩))
    go_ret
    exact ⟨rfl, 0, rfl⟩
  · rw [decide_eq_false hs] at h1
    have HS := Lib.hid (flV_else hs)
    clear hs
    go_enter Try.func38, Try.ntmps38
    go_wp2_with (go_at_call 36; refine (c_spec_l01Bits _ _ h).mono ?_; rintro e w' ⟨rfl, rfl⟩)
    go_ret
    exact ⟨by rw [HS.out]; rfl, 0, rfl⟩
theorem c_spec_FlushNumber (x : Nat) (w : World) (h : x < 4294967296) : Calls Try.prog 14 #[.float .f32 x] w fun e w' => e = .returned (.float .f32 (flV x)) ∧ ∃ n, w' = w.drewN n := by
  go_enter Try.func14, Try.ntmps14
  go_wp2_with (go_at_call 38; refine (c_spec_l01Flush _ _ h).mono ?_; rintro e w' ⟨rfl, n, rfl⟩)
  go_ret
  exact ⟨rfl, _, rfl⟩
theorem c_Copysign0 (x : Nat) (w : World) (h : x < 18446744073709551616) : Calls Try.prog 39 #[.float .f64 0, .float .f64 x] w fun e w' => e = .returned (.float .f64 (x / 9223372036854775808 * 9223372036854775808)) ∧ w = w' := by
  have H := Lib.hid (copysign_bits x h)
  go_enter Try.func39, Try.ntmps39
  go_wp2
  go_ret
  exact ⟨by rw [← H.out]; rfl, rfl⟩
def RetV (v : Option Nat) (w : World) (e : Ending) (w' : World) : Prop := ∃ r n, e = .returned (.float .f32 r) ∧ w' = w.drewN n ∧ fv .f32 r = v
theorem RetV.mk {v : Option Nat} {w : World} {r : Nat} (n : Nat) (h : fv .f32 r = v) : RetV v w (.returned (.float .f32 r)) (w.drewN n) := ⟨r, n, rfl, rfl, h⟩
theorem c_impl_FlushNumber (x : Nat) (w : World) (h : x < 4294967296) : Calls Try.prog 15 #[.float .f32 x] w (RetV (fv .f32 (flV x)) w) := by
  by_cases hb : subB x = true
  · have hs : x % 2147483648 < 8388608 := by unfold subB at hb; exact (of_decide_eq_true hb).2
    have hl : ∀ wx, convR wx .f32 x .f64 < 18446744073709551616 := fun wx => convR_lt wx .f32 x .f64 h
    have HS := Lib.hid hs
    have HL := Lib.hid hl
    clear hs hl
    go_enter Try.func15, Try.ntmps15
    go_wp2_with fail
    refine (c_impl_IsSubnormal _ _ h).mono ?_; rintro e w' ⟨rfl, n, rfl⟩
    go_wp2_with fail
    refine (c_Copysign0 _ _ (HL.out _)).mono ?_; rintro e w' ⟨rfl, rfl⟩
    go_wp2
    go_ret
    exact RetV.mk _ (fv_flush _ _ x HS.out)
  · have hb' : subB x = false := by simpa using hb
    have hx : flV x = x := by
      unfold subB at hb
      by_cases hs : x % 2147483648 < 8388608
      · have : x % 2147483648 = 0 := by
          by_cases h0 : x % 2147483648 = 0
          · exact h0
          · exact absurd (decide_eq_true ⟨h0, hs⟩) hb
        exact flV_zero h this
      · exact flV_else hs
    have HX := Lib.hid hx
    clear hx hb
    go_enter Try.func15, Try.ntmps15
    go_wp2_with fail
    refine (c_impl_IsSubnormal _ _ h).mono ?_; rintro e w' ⟨rfl, n, rfl⟩
    go_wp2
    go_ret
    exact RetV.mk _ (by rw [HX.out])
theorem walk_FnExactIsSubnormal (a0 : Nat) (w : World) (w0 : (Lit.float .f32 a0).wf = true) :
    Calls Try.prog 4 #[.float .f32 a0] w fun e w' => e = .returned (.bool true) ∧ Below w.heap.size w w' := by
  have h0 := wf32 w0
  clear w0
  go_enter Try.func4, Try.ntmps4
  go_wp2_with (first | (go_at_call 12; refine (c_spec_IsSubnormal _ _ h0).mono ?_; rintro e w' ⟨rfl, n, rfl⟩) | (go_at_call 13; refine (c_impl_IsSubnormal _ _ h0).mono ?_; rintro e w' ⟨rfl, n, rfl⟩))
  go_ret
  exact ⟨rfl, wbelow _ _⟩
theorem walk_FnExactFlushNumber (a0 : Nat) (w : World) (w0 : (Lit.float .f32 a0).wf = true) :
    Calls Try.prog 5 #[.float .f32 a0] w fun e w' => e = .returned (.bool true) ∧ Below w.heap.size w w' := by
  have h0 := wf32 w0
  clear w0
  go_enter Try.func5, Try.ntmps5
  go_wp2_with fail
  refine (c_spec_FlushNumber _ _ h0).mono ?_; rintro e w' ⟨rfl, n, rfl⟩
  go_wp2_with fail
  refine (c_impl_FlushNumber _ _ h0).mono ?_; rintro e w' ⟨r', n', rfl, rfl, hv'⟩
  have HV' := Lib.hid hv'
  clear hv'
  go_wp2_with fail
  refine (c_sameFloat _ _ _ (by rw [fv_wideR, fv_wideR, HV'.out])).mono ?_; rintro e w' ⟨rfl, m, rfl⟩
  go_wp2
  go_ret
  exact ⟨rfl, wbelow _ _⟩
end Go.Proofs.Ytnjkpapjioeffab
