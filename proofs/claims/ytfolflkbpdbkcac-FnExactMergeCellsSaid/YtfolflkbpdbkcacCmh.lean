/- two cells that can be merged, on the program's side. -/
import Derived.Test.YtfolflkbpdbkcacOwc
import Derived.Test.YtfolflkbpdbkcacLcl
import Derived.Laws.StructEq
import Derived.Deep.RegionHeld3
namespace Go.Proofs.Ytfolflkbpdbkcac
open Go.ChangeShapes Go.WideShapes Go.ChangeAt Go.RowKit
set_option linter.unusedVariables false
def shapeB (W D S W' D' S' : Int) : Bool := (W == W') && (D == D') && (S == S')
theorem shape_eq (W D S W' D' S' : Int) (w : World) : (binOp .eql 93 (.agg #[.int .i64 W, .int .i64 D, .int .i64 S]) (.agg #[.int .i64 W', .int .i64 D', .int .i64 S'])).run Try.prog w = .ok (.bool (shapeB W D S W' D' S')) w := by
  have u3 := Try.underlying2
  have a3 := Try.isAgg2
  have z3 := Try.sizeOf2
  have hS : Try.prog.underlying 93 = some (.struct (Try.prog.fieldsOf 93)) := by kernel_rfl
  have hp : Try.prog.stoodInHeld 93 = false := by kernel_rfl
  rw [run_eql_struct, show (10000 : Nat) = 9999 + 1 from rfl, run_equalIn_agg w 9999 93 _ _ hS hp]
  simp only [Program.fieldsOf, Try.underlying93]
  go_simp
  unfold shapeB
  by_cases h1 : W = W' <;> by_cases h2 : D = D' <;> by_cases h3 : S = S' <;> simp [h1, h2, h3]
theorem shape_guard (x y : Operand) (W D S W' D' S' : Int) (w : World) : (eqGuard .eql 93 x y (.agg #[.int .i64 W, .int .i64 D, .int .i64 S]) (.agg #[.int .i64 W', .int .i64 D', .int .i64 S'])).run Try.prog w = .ok () w :=
  run_eqGuard_agg w .eql 93 x y _ _ (by kernel_rfl)
theorem shapeB_is {W D S W' D' S' : Int} (h : shapeB W D S W' D' S' = true) : W = W' ∧ D = D' ∧ S = S' := by
  unfold shapeB at h
  simp only [Bool.and_eq_true, beq_iff_eq] at h
  exact ⟨h.1.1, h.1.2, h.2⟩
def mergeB (W D S : Int) (zs : List Int) (W' D' S' : Int) (ys : List Int) : Bool := cellsB W D S zs && cellsB W' D' S' ys && shapeB W D S W' D' S'
set_option maxRecDepth 100000 in
set_option maxHeartbeats 8000000 in
theorem c_impl_canMerge (W D S : Int) (a : Option Addr) (n cap : Nat) (zs : List Int) (W' D' S' : Int) (a' : Option Addr) (n' cap' : Nat) (ys : List Int) (w : World) {r : Bool} (hr : mergeB W D S zs W' D' S' ys = r) (hm : n ≤ maxLen) (h : Reads w a n (ints zs)) (hm' : n' ≤ maxLen) (h' : Reads w a' n' (ints ys)) :
    Calls Try.prog 97 #[.agg #[.int .i64 W, .int .i64 D, .int .i64 S, .slice a n cap], .agg #[.int .i64 W', .int .i64 D', .int .i64 S', .slice a' n' cap']] w fun e w' => e = .returned (.bool r) ∧ Ext w w' := by
  have H := Lib.hid h
  have H' := Lib.hid h'
  have HM := Lib.hid hm
  have HM' := Lib.hid hm'
  have BX := Lib.hid ((Box.alloc w #[.int .i64 W, .int .i64 D, .int .i64 S, .slice a n cap] 54).past (.cells #[.int .i64 W', .int .i64 D', .int .i64 S', .slice a' n' cap'] 54))
  have BY := Lib.hid (Box.alloc_at (w.alloc (.cells #[.int .i64 W, .int .i64 D, .int .i64 S, .slice a n cap] 54)) #[.int .i64 W', .int .i64 D', .int .i64 S', .slice a' n' cap'] 54 (b := w.heap.size + 1) (by simp))
  have hse := shape_eq W D S W' D' S'
  have hsg := fun x y => shape_guard x y W D S W' D' S'
  clear h h' hm hm'
  cases ha : cellsB W D S zs
  · have HR := Lib.hid (show r = false by rw [← hr]; unfold mergeB; rw [ha]; rfl)
    have HA := Lib.hid ha
    clear hr ha hse hsg
    go_enter Try.func97, Try.ntmps97
    go_wp2_with fail
    go_region_with (first | (go_at_call_of 129 (Value.agg #[.int .i64 W, .int .i64 D, .int .i64 S, .slice a n cap]); refine (c_impl_ValidCells W D S a n cap zs _ HA.out HM.out (H.out.on (by (repeat (first | assumption | exact Ext.refl _ | (with_reducible refine Ext.stepS ?_ (by first | exact Nat.le_refl _ | (simp; done) | (simp; omega)) _) | (with_reducible refine Ext.stepN ?_ _) | (with_reducible refine Ext.stepD ?_) | (with_reducible refine Ext.stepA ?_ _)))))).mono ?_; rintro e u1 ⟨rfl, x1⟩; have EA : Ext ((w.alloc (.cells #[.int .i64 W, .int .i64 D, .int .i64 S, .slice a n cap] 54)).alloc (.cells #[.int .i64 W', .int .i64 D', .int .i64 S', .slice a' n' cap'] 54)) u1 := Ext.trans (by (repeat (first | assumption | exact Ext.refl _ | (with_reducible refine Ext.stepS ?_ (by first | exact Nat.le_refl _ | (simp; done) | (simp; omega)) _) | (with_reducible refine Ext.stepN ?_ _) | (with_reducible refine Ext.stepD ?_) | (with_reducible refine Ext.stepA ?_ _)))) x1; have EW : Ext w u1 := Ext.trans (by (repeat (first | assumption | exact Ext.refl _ | (with_reducible refine Ext.stepS ?_ (by first | exact Nat.le_refl _ | (simp; done) | (simp; omega)) _) | (with_reducible refine Ext.stepN ?_ _) | (with_reducible refine Ext.stepD ?_) | (with_reducible refine Ext.stepA ?_ _)))) x1; obtain ⟨ka0, ka1, ka2, ka3⟩ := (BX.out.on EA).four; obtain ⟨kb0, kb1, kb2, kb3⟩ := (BY.out.on EA).four))
    all_goals
      go_wp2
      go_ret
      exact ⟨retB HR.out.symm, by (repeat (first | assumption | exact Ext.refl _ | (with_reducible refine Ext.stepS ?_ (by first | exact Nat.le_refl _ | (simp; done) | (simp; omega)) _) | (with_reducible refine Ext.stepN ?_ _) | (with_reducible refine Ext.stepD ?_) | (with_reducible refine Ext.stepA ?_ _)))⟩
  · cases hb : cellsB W' D' S' ys
    · have HR := Lib.hid (show r = false by rw [← hr]; unfold mergeB; rw [ha, hb]; rfl)
      have HA := Lib.hid ha
      have HB := Lib.hid hb
      clear hr ha hb hse hsg
      go_enter Try.func97, Try.ntmps97
      go_wp2_with fail
      go_region_with (first | (go_at_call_of 129 (Value.agg #[.int .i64 W, .int .i64 D, .int .i64 S, .slice a n cap]); refine (c_impl_ValidCells W D S a n cap zs _ HA.out HM.out (H.out.on (by (repeat (first | assumption | exact Ext.refl _ | (with_reducible refine Ext.stepS ?_ (by first | exact Nat.le_refl _ | (simp; done) | (simp; omega)) _) | (with_reducible refine Ext.stepN ?_ _) | (with_reducible refine Ext.stepD ?_) | (with_reducible refine Ext.stepA ?_ _)))))).mono ?_; rintro e u1 ⟨rfl, x1⟩; have EA : Ext ((w.alloc (.cells #[.int .i64 W, .int .i64 D, .int .i64 S, .slice a n cap] 54)).alloc (.cells #[.int .i64 W', .int .i64 D', .int .i64 S', .slice a' n' cap'] 54)) u1 := Ext.trans (by (repeat (first | assumption | exact Ext.refl _ | (with_reducible refine Ext.stepS ?_ (by first | exact Nat.le_refl _ | (simp; done) | (simp; omega)) _) | (with_reducible refine Ext.stepN ?_ _) | (with_reducible refine Ext.stepD ?_) | (with_reducible refine Ext.stepA ?_ _)))) x1; have EW : Ext w u1 := Ext.trans (by (repeat (first | assumption | exact Ext.refl _ | (with_reducible refine Ext.stepS ?_ (by first | exact Nat.le_refl _ | (simp; done) | (simp; omega)) _) | (with_reducible refine Ext.stepN ?_ _) | (with_reducible refine Ext.stepD ?_) | (with_reducible refine Ext.stepA ?_ _)))) x1; obtain ⟨ka0, ka1, ka2, ka3⟩ := (BX.out.on EA).four; obtain ⟨kb0, kb1, kb2, kb3⟩ := (BY.out.on EA).four) | (go_at_call_of 129 (Value.agg #[.int .i64 W', .int .i64 D', .int .i64 S', .slice a' n' cap']); refine (c_impl_ValidCells W' D' S' a' n' cap' ys _ HB.out HM'.out (H'.out.on (by (repeat (first | assumption | exact Ext.refl _ | (with_reducible refine Ext.stepS ?_ (by first | exact Nat.le_refl _ | (simp; done) | (simp; omega)) _) | (with_reducible refine Ext.stepN ?_ _) | (with_reducible refine Ext.stepD ?_) | (with_reducible refine Ext.stepA ?_ _)))))).mono ?_; rintro e u1 ⟨rfl, x1⟩; have EA : Ext ((w.alloc (.cells #[.int .i64 W, .int .i64 D, .int .i64 S, .slice a n cap] 54)).alloc (.cells #[.int .i64 W', .int .i64 D', .int .i64 S', .slice a' n' cap'] 54)) u1 := Ext.trans (by (repeat (first | assumption | exact Ext.refl _ | (with_reducible refine Ext.stepS ?_ (by first | exact Nat.le_refl _ | (simp; done) | (simp; omega)) _) | (with_reducible refine Ext.stepN ?_ _) | (with_reducible refine Ext.stepD ?_) | (with_reducible refine Ext.stepA ?_ _)))) x1; have EW : Ext w u1 := Ext.trans (by (repeat (first | assumption | exact Ext.refl _ | (with_reducible refine Ext.stepS ?_ (by first | exact Nat.le_refl _ | (simp; done) | (simp; omega)) _) | (with_reducible refine Ext.stepN ?_ _) | (with_reducible refine Ext.stepD ?_) | (with_reducible refine Ext.stepA ?_ _)))) x1; obtain ⟨ka0, ka1, ka2, ka3⟩ := (BX.out.on EA).four; obtain ⟨kb0, kb1, kb2, kb3⟩ := (BY.out.on EA).four))
      all_goals
        go_wp2
        go_ret
        exact ⟨retB HR.out.symm, by (repeat (first | assumption | exact Ext.refl _ | (with_reducible refine Ext.stepS ?_ (by first | exact Nat.le_refl _ | (simp; done) | (simp; omega)) _) | (with_reducible refine Ext.stepN ?_ _) | (with_reducible refine Ext.stepD ?_) | (with_reducible refine Ext.stepA ?_ _)))⟩
    · have HR := Lib.hid (show shapeB W D S W' D' S' = r by rw [← hr]; unfold mergeB; rw [ha, hb]; rfl)
      have HA := Lib.hid ha
      have HB := Lib.hid hb
      rw [HR.out] at hse
      clear hr ha hb
      go_enter Try.func97, Try.ntmps97
      go_wp2_with fail
      go_region_with (first | (go_at_call_of 129 (Value.agg #[.int .i64 W, .int .i64 D, .int .i64 S, .slice a n cap]); refine (c_impl_ValidCells W D S a n cap zs _ HA.out HM.out (H.out.on (by (repeat (first | assumption | exact Ext.refl _ | (with_reducible refine Ext.stepS ?_ (by first | exact Nat.le_refl _ | (simp; done) | (simp; omega)) _) | (with_reducible refine Ext.stepN ?_ _) | (with_reducible refine Ext.stepD ?_) | (with_reducible refine Ext.stepA ?_ _)))))).mono ?_; rintro e u1 ⟨rfl, x1⟩; have EA : Ext ((w.alloc (.cells #[.int .i64 W, .int .i64 D, .int .i64 S, .slice a n cap] 54)).alloc (.cells #[.int .i64 W', .int .i64 D', .int .i64 S', .slice a' n' cap'] 54)) u1 := Ext.trans (by (repeat (first | assumption | exact Ext.refl _ | (with_reducible refine Ext.stepS ?_ (by first | exact Nat.le_refl _ | (simp; done) | (simp; omega)) _) | (with_reducible refine Ext.stepN ?_ _) | (with_reducible refine Ext.stepD ?_) | (with_reducible refine Ext.stepA ?_ _)))) x1; have EW : Ext w u1 := Ext.trans (by (repeat (first | assumption | exact Ext.refl _ | (with_reducible refine Ext.stepS ?_ (by first | exact Nat.le_refl _ | (simp; done) | (simp; omega)) _) | (with_reducible refine Ext.stepN ?_ _) | (with_reducible refine Ext.stepD ?_) | (with_reducible refine Ext.stepA ?_ _)))) x1; obtain ⟨ka0, ka1, ka2, ka3⟩ := (BX.out.on EA).four; obtain ⟨kb0, kb1, kb2, kb3⟩ := (BY.out.on EA).four) | (go_at_call_of 129 (Value.agg #[.int .i64 W', .int .i64 D', .int .i64 S', .slice a' n' cap']); refine (c_impl_ValidCells W' D' S' a' n' cap' ys _ HB.out HM'.out (H'.out.on (by (repeat (first | assumption | exact Ext.refl _ | (with_reducible refine Ext.stepS ?_ (by first | exact Nat.le_refl _ | (simp; done) | (simp; omega)) _) | (with_reducible refine Ext.stepN ?_ _) | (with_reducible refine Ext.stepD ?_) | (with_reducible refine Ext.stepA ?_ _)))))).mono ?_; rintro e u1 ⟨rfl, x1⟩; have EA : Ext ((w.alloc (.cells #[.int .i64 W, .int .i64 D, .int .i64 S, .slice a n cap] 54)).alloc (.cells #[.int .i64 W', .int .i64 D', .int .i64 S', .slice a' n' cap'] 54)) u1 := Ext.trans (by (repeat (first | assumption | exact Ext.refl _ | (with_reducible refine Ext.stepS ?_ (by first | exact Nat.le_refl _ | (simp; done) | (simp; omega)) _) | (with_reducible refine Ext.stepN ?_ _) | (with_reducible refine Ext.stepD ?_) | (with_reducible refine Ext.stepA ?_ _)))) x1; have EW : Ext w u1 := Ext.trans (by (repeat (first | assumption | exact Ext.refl _ | (with_reducible refine Ext.stepS ?_ (by first | exact Nat.le_refl _ | (simp; done) | (simp; omega)) _) | (with_reducible refine Ext.stepN ?_ _) | (with_reducible refine Ext.stepD ?_) | (with_reducible refine Ext.stepA ?_ _)))) x1; obtain ⟨ka0, ka1, ka2, ka3⟩ := (BX.out.on EA).four; obtain ⟨kb0, kb1, kb2, kb3⟩ := (BY.out.on EA).four) | (go_at_call_of 130 (Value.agg #[.int .i64 W, .int .i64 D, .int .i64 S, .slice a n cap]); refine (c_impl_shapeOf W D S a n cap _).mono ?_; rintro e u1 ⟨rfl, x1⟩; have EA : Ext ((w.alloc (.cells #[.int .i64 W, .int .i64 D, .int .i64 S, .slice a n cap] 54)).alloc (.cells #[.int .i64 W', .int .i64 D', .int .i64 S', .slice a' n' cap'] 54)) u1 := Ext.trans (by (repeat (first | assumption | exact Ext.refl _ | (with_reducible refine Ext.stepS ?_ (by first | exact Nat.le_refl _ | (simp; done) | (simp; omega)) _) | (with_reducible refine Ext.stepN ?_ _) | (with_reducible refine Ext.stepD ?_) | (with_reducible refine Ext.stepA ?_ _)))) x1; have EW : Ext w u1 := Ext.trans (by (repeat (first | assumption | exact Ext.refl _ | (with_reducible refine Ext.stepS ?_ (by first | exact Nat.le_refl _ | (simp; done) | (simp; omega)) _) | (with_reducible refine Ext.stepN ?_ _) | (with_reducible refine Ext.stepD ?_) | (with_reducible refine Ext.stepA ?_ _)))) x1; obtain ⟨ka0, ka1, ka2, ka3⟩ := (BX.out.on EA).four; obtain ⟨kb0, kb1, kb2, kb3⟩ := (BY.out.on EA).four) | (go_at_call_of 130 (Value.agg #[.int .i64 W', .int .i64 D', .int .i64 S', .slice a' n' cap']); refine (c_impl_shapeOf W' D' S' a' n' cap' _).mono ?_; rintro e u1 ⟨rfl, x1⟩; have EA : Ext ((w.alloc (.cells #[.int .i64 W, .int .i64 D, .int .i64 S, .slice a n cap] 54)).alloc (.cells #[.int .i64 W', .int .i64 D', .int .i64 S', .slice a' n' cap'] 54)) u1 := Ext.trans (by (repeat (first | assumption | exact Ext.refl _ | (with_reducible refine Ext.stepS ?_ (by first | exact Nat.le_refl _ | (simp; done) | (simp; omega)) _) | (with_reducible refine Ext.stepN ?_ _) | (with_reducible refine Ext.stepD ?_) | (with_reducible refine Ext.stepA ?_ _)))) x1; have EW : Ext w u1 := Ext.trans (by (repeat (first | assumption | exact Ext.refl _ | (with_reducible refine Ext.stepS ?_ (by first | exact Nat.le_refl _ | (simp; done) | (simp; omega)) _) | (with_reducible refine Ext.stepN ?_ _) | (with_reducible refine Ext.stepD ?_) | (with_reducible refine Ext.stepA ?_ _)))) x1; obtain ⟨ka0, ka1, ka2, ka3⟩ := (BX.out.on EA).four; obtain ⟨kb0, kb1, kb2, kb3⟩ := (BY.out.on EA).four))
      all_goals
        go_wp2
        go_ret
        exact ⟨rfl, by (repeat (first | assumption | exact Ext.refl _ | (with_reducible refine Ext.stepS ?_ (by first | exact Nat.le_refl _ | (simp; done) | (simp; omega)) _) | (with_reducible refine Ext.stepN ?_ _) | (with_reducible refine Ext.stepD ?_) | (with_reducible refine Ext.stepA ?_ _)))⟩
end Go.Proofs.Ytfolflkbpdbkcac
