/- TenthsOf: both functions answer the same; the law's walk. -/
import Derived.Test.YtnjkpapjioeffacLgn
import Derived.Test.YtnjkpapjioeffacFtn
namespace Go.Proofs.Ytnjkpapjioeffac
open Go.ChangeShapes Go.WideShapes Go.ChangeAt Go.RowKit Go.Proofs.Ytnjkpapjioeffac.Flo
set_option linter.unusedVariables false
attribute [local go_sem] unary_neg_float run_store_float run_store_complex ext_Float32bits ext_Float64bits ext_Float32frombits ext_Float64frombits ext_sqrt
theorem toI (x : Nat) {s : Bool} {m : Nat} {e : Int} (hd : FloatKind.f64.decode x = .number s m e) : Extern.MathFloor.toIntegral "math.archFloor" .down #[.float .f64 x] = pure (.float .f64 (floorB x)) := by
  unfold floorB
  delta Extern.MathFloor.toIntegral
  generalize FloatKind.f64.decode = dec at *
  refine Eq.trans (congrArg (fun d => Extern.MathFloor.toIntegral.match_1 (fun _ => Sem Value) d _ (fun d => pure (.float .f64 (FloatKind.f64.encode (d.integral .down))))) hd) ?_
  rw [hd]
theorem ext_archFloor (x : Nat) (w : World) {s : Bool} {m : Nat} {e : Int} (hd : FloatKind.f64.decode x = .number s m e) : (callFunc 67 #[.float .f64 x]).run Try.prog w = .ok (.value (.float .f64 (floorB x))) w := by
  rw [run_callFunc_extern (fn := Try.f67) (e := Extern.MathFloor.toIntegral "math.archFloor" .down) (by kernel_rfl) (by kernel_rfl) (by kernel_rfl) (by kernel_rfl) (by kernel_rfl)]
  rw [toI x hd]
  rfl
theorem c_Floor (x : Nat) (w : World) {s : Bool} {m : Nat} {e : Int} (hd : FloatKind.f64.decode x = .number s m e) : Calls Try.prog 47 #[.float .f64 x] w fun e w' => e = .returned (.float .f64 (floorB x)) ∧ w = w' := by
  have hx : ∀ wx : World, (callFunc 67 #[.float .f64 x]).run Try.prog wx = .ok (.value (.float .f64 (floorB x))) wx := fun wx => ext_archFloor x wx hd
  clear hd
  go_enter Try.func47, Try.ntmps47
  go_wp2
  go_ret
  exact ⟨rfl, rfl⟩
theorem c_impl_Ten_fin (x : Nat) (w : World) (hl : x < 4294967296) (hf : isFin .f32 x = false) : Calls Try.prog 16 #[.float .f32 x] w fun e w' => e = .returned (.tuple #[.int .i64 0, .bool false]) ∧ ∃ n, w' = w.drewN n := by
  have C := fun (wx : World) => c_impl_IsFinite x wx hl
  rw [hf] at C
  have HC := Lib.hid C
  clear C hf
  go_enter Try.func16, Try.ntmps16
  go_wp2_with (go_at_call 45; refine (HC.out _).mono ?_; rintro e w' ⟨rfl, n, rfl⟩)
  go_ret2
  exact ⟨rfl, _, rfl⟩
theorem c_impl_Ten_neg (x : Nat) (w : World) (hl : x < 4294967296) (hf : isFin .f32 x = true) (h : (FloatKind.f32.format.order x 0 == some .lt || FloatKind.f32.format.order x 0 == some .eq) = true) : Calls Try.prog 16 #[.float .f32 x] w fun e w' => e = .returned (.tuple #[.int .i64 0, .bool false]) ∧ ∃ n, w' = w.drewN n := by
  have C := fun (wx : World) => c_impl_IsFinite x wx hl
  rw [hf] at C
  have HC := Lib.hid C
  clear C hf
  go_enter Try.func16, Try.ntmps16
  go_wp2_with (go_at_call 45; refine (HC.out _).mono ?_; rintro e w' ⟨rfl, n, rfl⟩)
  go_ret2
  exact ⟨rfl, _, rfl⟩
theorem c_impl_Ten_pos (x M b : Nat) (i n : Int) (w : World) {s' : Bool} {m' : Nat} {e' : Int} (hl : x < 4294967296) (hf : isFin .f32 x = true) (h : (FloatKind.f32.format.order x 0 == some .lt || FloatKind.f32.format.order x 0 == some .eq) = false)
    (g1 : 4503599627370496 ≤ M) (g2 : M < 9007199254740992) (hi : -210 ≤ i) (hi' : i ≤ 80) (hR : ∀ w, convR w .f32 x .f64 = wd M i) (hD : convD .f32 x .f64 = 0)
    (hv : tenV (logOf (logS (fv .f64 (wd M (endK M)))) (i - endK M)) = some b) (hd : FloatKind.f64.decode b = .number s' m' e') (hn : floatToIntVal .f64 (floorB b) .i64 = some n) :
    Calls Try.prog 16 #[.float .f32 x] w fun e w' => e = .returned (.tuple #[.int .i64 n, .bool true]) ∧ ∃ n, w' = w.drewN n := by
  have hcv : ∀ wx : World, (convert 28 22 (.float .f32 x)).run Try.prog wx = .ok (.float .f64 (wd M i)) wx := fun wx => by
    rw [run_conv wx _ _ _ _ _ (by kernel_rfl) (by kernel_rfl), hR, hD]; rfl
  have hci : ∀ wx : World, (convert 22 2 (.float .f64 (floorB b))).run Try.prog wx = .ok (.int .i64 n) wx := fun wx => run_convert_float_int wx _ _ _ _ _ _ (by kernel_rfl) (by kernel_rfl) hn
  have C := fun (wx : World) => c_impl_IsFinite x wx hl
  rw [hf] at C
  have HC := Lib.hid C
  have HV := Lib.hid hv
  have CL := Lib.hid (fun (wx : World) => c_impl_wideLog M i wx g1 g2 hi hi')
  have CF := Lib.hid (fun (wx : World) => c_Floor b wx hd)
  clear C hf g1 g2 hi hi' hR hD hv hd hn
  go_enter Try.func16, Try.ntmps16
  go_wp2_with (go_at_call 45; refine (HC.out _).mono ?_; rintro e w' ⟨rfl, n, rfl⟩)
  refine (CL.out _).mono ?_; rintro e w' ⟨r, k, rfl, rfl, hr⟩
  have HR := Lib.hid hr
  clear hr hcv
  go_wp2_with fail
  (with_reducible refine upon_fl rfl ?_); intro r1 n1 h1
  go_wp2_with fail
  (with_reducible refine upon_fl rfl ?_); intro r2 n2 h2
  have hb : fv .f64 r2 = some b := by rw [h2.out, h1.out, HR.out]; exact HV.out
  obtain rfl := fv_eq hb
  clear hb h2 h1 HR HV
  go_wp2_with (go_at_call 47; refine (CF.out _).mono ?_; rintro e w' ⟨rfl, rfl⟩)
  go_ret2
  exact ⟨rfl, _, rfl⟩
theorem c_spec_Ten_fin (x : Nat) (w : World) (hf : isFin .f32 x = false) : Calls Try.prog 15 #[.float .f32 x] w fun e w' => e = .returned (.tuple #[.int .i64 0, .bool false]) ∧ ∃ n, w' = w.drewN n := by
  have C := fun (wx : World) => c_spec_l01Finite x wx
  rw [hf] at C
  have HC := Lib.hid C
  clear C hf
  go_enter Try.func15, Try.ntmps15
  go_wp2_with (go_at_call 43; refine (HC.out _).mono ?_; rintro e w' ⟨rfl, n, rfl⟩)
  go_ret2
  exact ⟨rfl, _, rfl⟩
theorem c_spec_Ten_neg (x : Nat) (w : World) (hf : isFin .f32 x = true) (h : (FloatKind.f32.format.order x 0 == some .lt || FloatKind.f32.format.order x 0 == some .eq) = true) : Calls Try.prog 15 #[.float .f32 x] w fun e w' => e = .returned (.tuple #[.int .i64 0, .bool false]) ∧ ∃ n, w' = w.drewN n := by
  have C := fun (wx : World) => c_spec_l01Finite x wx
  rw [hf] at C
  have HC := Lib.hid C
  clear C hf
  go_enter Try.func15, Try.ntmps15
  go_wp2_with (go_at_call 43; refine (HC.out _).mono ?_; rintro e w' ⟨rfl, n, rfl⟩)
  go_ret2
  exact ⟨rfl, _, rfl⟩
theorem c_spec_Ten_pos (x M b : Nat) (i n : Int) (w : World) {s' : Bool} {m' : Nat} {e' : Int} (hf : isFin .f32 x = true) (h : (FloatKind.f32.format.order x 0 == some .lt || FloatKind.f32.format.order x 0 == some .eq) = false)
    (g1 : 4503599627370496 ≤ M) (g2 : M < 9007199254740992) (hi : -210 ≤ i) (hi' : i ≤ 80) (hR : ∀ w, convR w .f32 x .f64 = wd M i) (hD : convD .f32 x .f64 = 0)
    (hv : tenV (logOf (logS (fv .f64 (wd M (endK M)))) (i - endK M)) = some b) (hd : FloatKind.f64.decode b = .number s' m' e') (hn : floatToIntVal .f64 (floorB b) .i64 = some n) :
    Calls Try.prog 15 #[.float .f32 x] w fun e w' => e = .returned (.tuple #[.int .i64 n, .bool true]) ∧ ∃ n, w' = w.drewN n := by
  have C2 : ∀ wx : World, Calls Try.prog 44 #[.float .f32 x] wx fun e w' => e = .returned (.int .i64 n) ∧ ∃ n, w' = wx.drewN n := by
    intro wx
    have hcv : ∀ wx : World, (convert 28 22 (.float .f32 x)).run Try.prog wx = .ok (.float .f64 (wd M i)) wx := fun wx => by
      rw [run_conv wx _ _ _ _ _ (by kernel_rfl) (by kernel_rfl), hR, hD]; rfl
    have hci : ∀ wx : World, (convert 22 2 (.float .f64 (floorB b))).run Try.prog wx = .ok (.int .i64 n) wx := fun wx => run_convert_float_int wx _ _ _ _ _ _ (by kernel_rfl) (by kernel_rfl) hn
    have HV := Lib.hid hv
    have CL := Lib.hid (fun (wx : World) => c_spec_l01LogWide M i wx g1 g2 hi hi')
    have CF := Lib.hid (fun (wx : World) => c_Floor b wx hd)
    clear hf g1 g2 hi hi' hR hD hv hd hn h
    go_enter Try.func44, Try.ntmps44
    go_wp2_with fail
    refine (CL.out _).mono ?_; rintro e w' ⟨r, k, rfl, rfl, hr⟩
    have HR := Lib.hid hr
    clear hr hcv
    go_wp2_with fail
    (with_reducible refine upon_fl rfl ?_); intro r1 n1 h1
    go_wp2_with fail
    (with_reducible refine upon_fl rfl ?_); intro r2 n2 h2
    have hb : fv .f64 r2 = some b := by rw [h2.out, h1.out, HR.out]; exact HV.out
    obtain rfl := fv_eq hb
    clear hb h2 h1 HR HV
    go_wp2_with (go_at_call 47; refine (CF.out _).mono ?_; rintro e w' ⟨rfl, rfl⟩)
    go_ret
    exact ⟨rfl, _, rfl⟩
  have HC2 := Lib.hid C2
  have C := fun (wx : World) => c_spec_l01Finite x wx
  rw [hf] at C
  have HC := Lib.hid C
  clear C C2 hf g1 g2 hi hi' hR hD hv hd hn
  go_enter Try.func15, Try.ntmps15
  go_wp2_with (first | (go_at_call 43; refine (HC.out _).mono ?_; rintro e w' ⟨rfl, n, rfl⟩) | (go_at_call 44; refine (HC2.out _).mono ?_; rintro e w' ⟨rfl, n, rfl⟩))
  go_ret2
  exact ⟨rfl, _, rfl⟩
theorem c_both_Ten (x : Nat) (hl : x < 4294967296) : ∃ (n : Int) (b : Bool), (∀ w, Calls Try.prog 16 #[.float .f32 x] w fun e w' => e = .returned (.tuple #[.int .i64 n, .bool b]) ∧ ∃ n, w' = w.drewN n) ∧ (∀ w, Calls Try.prog 15 #[.float .f32 x] w fun e w' => e = .returned (.tuple #[.int .i64 n, .bool b]) ∧ ∃ n, w' = w.drewN n) := by
  cases hf : isFin .f32 x with
  | false => exact ⟨0, false, fun w => c_impl_Ten_fin x w hl hf, fun w => c_spec_Ten_fin x w hf⟩
  | true =>
    obtain ⟨W, s, m, e, m', e', hR, hD, hW, gW, hd, dW, hz⟩ := wide_num hf
    obtain ⟨a1, a2⟩ := sign_num hd
    by_cases h0 : m = 0
    · have h : (FloatKind.f32.format.order x 0 == some .lt || FloatKind.f32.format.order x 0 == some .eq) = true := by rw [a1, decide_eq_true h0, Bool.or_true]
      exact ⟨0, false, fun w => c_impl_Ten_neg x w hl hf h, fun w => c_spec_Ten_neg x w hf h⟩
    · cases s with
      | true =>
        have h : (FloatKind.f32.format.order x 0 == some .lt || FloatKind.f32.format.order x 0 == some .eq) = true := by rw [a2, decide_eq_true h0]; rfl
        exact ⟨0, false, fun w => c_impl_Ten_neg x w hl hf h, fun w => c_spec_Ten_neg x w hf h⟩
      | false =>
        have h : (FloatKind.f32.format.order x 0 == some .lt || FloatKind.f32.format.order x 0 == some .eq) = false := by rw [a2, a1, decide_eq_false h0]; rfl
        obtain ⟨M, i, g1, g2, gi, gi', gR, gD⟩ := wide_pos hd h0
        have hk : endK M = -52 ∨ endK M = -53 := by unfold endK; split <;> omega
        obtain ⟨b, n, s', m2, e2, hv, hdb, hn⟩ := ten_ex (e := i - endK M) g1 g2 (by omega)
        exact ⟨n, true, fun w => c_impl_Ten_pos x M b i n w hl hf h g1 g2 gi gi' gR gD hv hdb hn, fun w => c_spec_Ten_pos x M b i n w hf h g1 g2 gi gi' gR gD hv hdb hn⟩
theorem walk_FnExactTenthsOf (a0 : Nat) (w : World) (w0 : (Lit.float .f32 a0).wf = true) :
    Calls Try.prog 4 #[.float .f32 a0] w fun e w' => e = .returned (.bool true) ∧ Below w.heap.size w w' := by
  have h0 := wf32 w0
  clear w0
  obtain ⟨n, b, c1, c2⟩ := c_both_Ten a0 h0
  have C1 := Lib.hid c1
  have C2 := Lib.hid c2
  clear c1 c2
  go_enter Try.func4, Try.ntmps4
  go_wp2_with (first | (go_at_call 15; refine (C2.out _).mono ?_; rintro e w' ⟨rfl, n, rfl⟩) | (go_at_call 16; refine (C1.out _).mono ?_; rintro e w' ⟨rfl, n, rfl⟩))
  go_ret
  exact ⟨rfl, wbelow _ _⟩
end Go.Proofs.Ytnjkpapjioeffac
