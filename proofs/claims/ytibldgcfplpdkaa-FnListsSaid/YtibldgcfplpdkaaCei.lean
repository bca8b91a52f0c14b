/- The rank of a share: both sides. -/
import Derived.Test.YtibldgcfplpdkaaCep
import Derived.Test.YtibldgcfplpdkaaFar
import Derived.Lib.MinMax
namespace Go.Proofs.Ytibldgcfplpdkaa
open Go.ChangeShapes Go.WideShapes Go.ChangeAt Go.RowKit Go.Proofs.Ytibldgcfplpdkaa.Flo
set_option linter.unusedVariables false
theorem flR_some {w : World} {op : BinOp} {k : FloatKind} {x y r : Nat} (h : floatBits op k x y = some r) : flR w op k x y = r := by unfold flR; rw [h]; rfl
theorem flD_some {op : BinOp} {k : FloatKind} {x y r : Nat} (h : floatBits op k x y = some r) : flD op k x y = 0 := by unfold flD; rw [h]; rfl
theorem ret_if {a b : Int} (h : a = b) : Ending.returned (.int .i64 a) = .returned (.int .i64 b) := by rw [h]
theorem toCeil (x : Nat) {s : Bool} {m : Nat} {e : Int} (hd : FloatKind.f64.decode x = .number s m e) : Extern.MathFloor.toIntegral "math.archCeil" .up #[.float .f64 x] = pure (.float .f64 (ceilB x)) := by
  unfold ceilB
  delta Extern.MathFloor.toIntegral
  generalize FloatKind.f64.decode = dec at *
  refine Eq.trans (congrArg (fun d => Extern.MathFloor.toIntegral.match_1 (fun _ => Sem Value) d _ (fun d => pure (.float .f64 (FloatKind.f64.encode (d.integral .up))))) hd) ?_
  rw [hd]
theorem ext_archCeil (x : Nat) (w : World) {s : Bool} {m : Nat} {e : Int} (hd : FloatKind.f64.decode x = .number s m e) : (callFunc 275 #[.float .f64 x]).run Try.prog w = .ok (.value (.float .f64 (ceilB x))) w := by
  rw [run_callFunc_extern (fn := Try.f275) (e := Extern.MathFloor.toIntegral "math.archCeil" .up) (by kernel_rfl) (by kernel_rfl) (by kernel_rfl) (by kernel_rfl) (by kernel_rfl)]
  rw [toCeil x hd]
  rfl
theorem c_Ceil (x : Nat) (w : World) {s : Bool} {m : Nat} {e : Int} (hd : FloatKind.f64.decode x = .number s m e) : Calls Try.prog 214 #[.float .f64 x] w fun e w' => e = .returned (.float .f64 (ceilB x)) ∧ w = w' := by
  have hx : ∀ wx : World, (callFunc 275 #[.float .f64 x]).run Try.prog wx = .ok (.value (.float .f64 (ceilB x))) wx := fun wx => ext_archCeil x wx hd
  clear hd
  go_enter Try.func214, Try.ntmps214
  go_wp2
  go_ret
  exact ⟨rfl, rfl⟩
theorem c_spec_l00Max_c (x y z : Int) (w : World) (h : max x y = z) : Calls Try.prog 255 #[.int .i64 x, .int .i64 y] w fun e w' => e = .returned (.int .i64 z) ∧ w = w' := by
  by_cases hxy : y < x
  · have H := Lib.hid (show x = z by omega)
    clear h
    go_enter Try.func255, Try.ntmps255
    go_wp2
    go_ret
    exact ⟨by rw [H.out]; rfl, rfl⟩
  · have H := Lib.hid (show y = z by omega)
    clear h
    go_enter Try.func255, Try.ntmps255
    go_wp2
    go_ret
    exact ⟨by rw [H.out]; rfl, rfl⟩
theorem c_spec_l00Min_c (x y z : Int) (w : World) (h : min x y = z) : Calls Try.prog 254 #[.int .i64 x, .int .i64 y] w fun e w' => e = .returned (.int .i64 z) ∧ w = w' := by
  by_cases hxy : x < y
  · have H := Lib.hid (show x = z by omega)
    clear h
    go_enter Try.func254, Try.ntmps254
    go_wp2
    go_ret
    exact ⟨by rw [H.out]; rfl, rfl⟩
  · have H := Lib.hid (show y = z by omega)
    clear h
    go_enter Try.func254, Try.ntmps254
    go_wp2
    go_ret
    exact ⟨by rw [H.out]; rfl, rfl⟩
theorem c_impl_isShare (x : Nat) (w : World) {r : Bool} (h : shareB x = r) : Calls Try.prog 109 #[.float .f32 x] w fun e w' => e = .returned (.bool r) ∧ w = w' := by
  cases h1 : (FloatKind.f32.format.order x 0 == some .gt || FloatKind.f32.format.order x 0 == some .eq)
  · have H := Lib.hid (show r = false by rw [← h]; exact shareB_1 h1)
    clear h
    go_enter Try.func109, Try.ntmps109
    go_wp2
    go_ret
    exact ⟨by rw [H.out]; rfl, rfl⟩
  · rw [shareB_2 h1] at h
    cases h2 : (FloatKind.f32.format.order x 1065353216 == some .lt || FloatKind.f32.format.order x 1065353216 == some .eq)
    all_goals
      rw [h2] at h
      have H := Lib.hid h.symm
      clear h
      go_enter Try.func109, Try.ntmps109
      go_wp2
      go_ret
      exact ⟨by rw [H.out]; rfl, rfl⟩
theorem c_spec_l02Share (x : Nat) (w : World) {r : Bool} (h : shareB x = r) : Calls Try.prog 187 #[.float .f32 x] w fun e w' => e = .returned (.bool r) ∧ w = w' := by
  cases h1 : (FloatKind.f32.format.order x 0 == some .gt || FloatKind.f32.format.order x 0 == some .eq)
  · have H := Lib.hid (show r = false by rw [← h]; exact shareB_1 h1)
    clear h
    go_enter Try.func187, Try.ntmps187
    go_wp2
    go_ret
    exact ⟨by rw [H.out]; rfl, rfl⟩
  · rw [shareB_2 h1] at h
    cases h2 : (FloatKind.f32.format.order x 1065353216 == some .lt || FloatKind.f32.format.order x 1065353216 == some .eq)
    all_goals
      rw [h2] at h
      have H := Lib.hid h.symm
      clear h
      go_enter Try.func187, Try.ntmps187
      go_wp2
      go_ret
      exact ⟨by rw [H.out]; rfl, rfl⟩
theorem c_impl_rankOfShare (x : Nat) (n : Int) (w : World) {v : Int} (hv : placeR x n = v) (hs : shareB x = true) (h0 : 0 ≤ n) (h1 : n ≤ 2097152) : Calls Try.prog 110 #[.float .f32 x, .int .i64 n] w fun e w' => e = .returned (.int .i64 v) ∧ w = w' := by
  obtain ⟨r, d, s, m, e, g1, g2, g3, g4⟩ := place_ex hs h0 h1
  have hmul : ∀ wx : World, (binOp .mul 37 (.float .f32 x) (.float .f32 (floatOfInt .f32 n))).run Try.prog wx = .ok (.float .f32 r) wx := fun wx => by
    rw [run_fl_mul, flR_some g1, flD_some g1, World.drewN_zero]
  have hcv : ∀ wx : World, (convert 37 42 (.float .f32 r)).run Try.prog wx = .ok (.float .f64 d) wx := fun wx => run_convert_float_float wx _ _ _ _ _ _ (by kernel_rfl) (by kernel_rfl) g2
  have hci : ∀ wx : World, (convert 42 2 (.float .f64 (ceilB d))).run Try.prog wx = .ok (.int .i64 (placeV x n)) wx := fun wx => run_convert_float_int wx _ _ _ _ _ _ (by kernel_rfl) (by kernel_rfl) g4
  have CF := Lib.hid (fun (wx : World) => c_Ceil d wx g3)
  have HV := Lib.hid hv
  clear g1 g2 g3 g4 hs h0 h1 hv
  go_enter Try.func110, Try.ntmps110
  go_wp2_with (go_at_call 214; refine (CF.out _).mono ?_; rintro e w' ⟨rfl, rfl⟩)
  go_ret
  exact ⟨ret_if (by rw [← HV.out]; unfold placeR; rfl), rfl⟩
theorem c_spec_l05Place (x : Nat) (n : Int) (w : World) {v : Int} (hv : placeR x n = v) (hs : shareB x = true) (h0 : 0 ≤ n) (h1 : n ≤ 2097152) : Calls Try.prog 189 #[.float .f32 x, .int .i64 n] w fun e w' => e = .returned (.int .i64 v) ∧ w = w' := by
  obtain ⟨r, d, s, m, e, g1, g2, g3, g4⟩ := place_ex hs h0 h1
  have hmul : ∀ wx : World, (binOp .mul 37 (.float .f32 x) (.float .f32 (floatOfInt .f32 n))).run Try.prog wx = .ok (.float .f32 r) wx := fun wx => by
    rw [run_fl_mul, flR_some g1, flD_some g1, World.drewN_zero]
  have hcv : ∀ wx : World, (convert 37 42 (.float .f32 r)).run Try.prog wx = .ok (.float .f64 d) wx := fun wx => run_convert_float_float wx _ _ _ _ _ _ (by kernel_rfl) (by kernel_rfl) g2
  have hci : ∀ wx : World, (convert 42 2 (.float .f64 (ceilB d))).run Try.prog wx = .ok (.int .i64 (placeV x n)) wx := fun wx => run_convert_float_int wx _ _ _ _ _ _ (by kernel_rfl) (by kernel_rfl) g4
  have CF := Lib.hid (fun (wx : World) => c_Ceil d wx g3)
  have HV := Lib.hid hv
  clear g1 g2 g3 g4 hs h0 h1 hv
  go_enter Try.func189, Try.ntmps189
  go_wp2_with (first | (go_at_call 214; refine (CF.out _).mono ?_; rintro e w' ⟨rfl, rfl⟩) | (go_at_call 255; refine (c_spec_l00Max_c _ _ _ _ rfl).mono ?_; rintro e w' ⟨rfl, rfl⟩) | (go_at_call 254; refine (c_spec_l00Min_c _ _ _ _ rfl).mono ?_; rintro e w' ⟨rfl, rfl⟩))
  go_ret
  exact ⟨ret_if (by rw [← HV.out]; unfold placeR; omega), rfl⟩
end Go.Proofs.Ytibldgcfplpdkaa
