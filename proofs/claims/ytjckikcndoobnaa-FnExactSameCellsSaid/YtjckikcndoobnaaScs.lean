/- SameCells on the program's side. -/
import Derived.Test.YtjckikcndoobnaaScf
namespace Go.Proofs.Ytjckikcndoobnaa
open Go.ChangeShapes Go.WideShapes Go.ChangeAt Go.RowKit
set_option linter.unusedVariables false
set_option maxRecDepth 100000 in
set_option maxHeartbeats 8000000 in
theorem c_impl_SameCells (W D S : Int) (a : Option Addr) (n cap : Nat) (zs : List Int) (W' D' S' : Int) (a' : Option Addr) (n' cap' : Nat) (ys : List Int) (w : World) {r : Bool} (hr : sameC W D S zs W' D' S' ys = r) (hm : n ≤ maxLen) (h : Reads w a n (ints zs)) (hm' : n' ≤ maxLen) (h' : Reads w a' n' (ints ys)) :
    Calls Try.prog 21 #[.agg #[.int .i64 W, .int .i64 D, .int .i64 S, .slice a n cap], .agg #[.int .i64 W', .int .i64 D', .int .i64 S', .slice a' n' cap']] w fun e w' => e = .returned (.bool r) ∧ Ext w w' := by
  cases hs : shapeB W D S W' D' S'
  · exact c_impl_SameCells_no W D S a n cap zs W' D' S' a' n' cap' ys w hr hs hm h hm' h'
  · have H := Lib.hid h
    have H' := Lib.hid h'
    have HM := Lib.hid hm
    have HM' := Lib.hid hm'
    have BX := Lib.hid ((Box.alloc w #[.int .i64 W, .int .i64 D, .int .i64 S, .slice a n cap] 27).past (.cells #[.int .i64 W', .int .i64 D', .int .i64 S', .slice a' n' cap'] 27))
    have BY := Lib.hid (Box.alloc_at (w.alloc (.cells #[.int .i64 W, .int .i64 D, .int .i64 S, .slice a n cap] 27)) #[.int .i64 W', .int .i64 D', .int .i64 S', .slice a' n' cap'] 27 (b := w.heap.size + 1) (by simp))
    have hse := shape_eq W D S W' D' S'
    have hsg := fun x y => shape_guard x y W D S W' D' S'
    clear h h' hm hm'
    have HR := Lib.hid (show sameL zs ys = r by rw [← hr]; exact (shapeB_yes hs).symm)
    rw [hs] at hse
    clear hr hs
    go_enter Try.func21, Try.ntmps21
    go_wp2_with fail
    go_region_with (first | (go_at_call_of 55 (Value.agg #[.int .i64 W, .int .i64 D, .int .i64 S, .slice a n cap]); refine (c_impl_shapeOf W D S a n cap _).mono ?_; rintro e u1 ⟨rfl, x1⟩; have EA : Ext ((w.alloc (.cells #[.int .i64 W, .int .i64 D, .int .i64 S, .slice a n cap] 27)).alloc (.cells #[.int .i64 W', .int .i64 D', .int .i64 S', .slice a' n' cap'] 27)) u1 := Ext.trans (by (repeat (first | assumption | exact Ext.refl _ | (with_reducible refine Ext.stepS ?_ (by first | exact Nat.le_refl _ | (simp; done) | (simp; omega)) _) | (with_reducible refine Ext.stepN ?_ _) | (with_reducible refine Ext.stepD ?_) | (with_reducible refine Ext.stepA ?_ _)))) x1; have EW : Ext w u1 := Ext.trans (by (repeat (first | assumption | exact Ext.refl _ | (with_reducible refine Ext.stepS ?_ (by first | exact Nat.le_refl _ | (simp; done) | (simp; omega)) _) | (with_reducible refine Ext.stepN ?_ _) | (with_reducible refine Ext.stepD ?_) | (with_reducible refine Ext.stepA ?_ _)))) x1; obtain ⟨ka0, ka1, ka2, ka3⟩ := (BX.out.on EA).four; obtain ⟨kb0, kb1, kb2, kb3⟩ := (BY.out.on EA).four) | (go_at_call_of 55 (Value.agg #[.int .i64 W', .int .i64 D', .int .i64 S', .slice a' n' cap']); refine (c_impl_shapeOf W' D' S' a' n' cap' _).mono ?_; rintro e u1 ⟨rfl, x1⟩; have EA : Ext ((w.alloc (.cells #[.int .i64 W, .int .i64 D, .int .i64 S, .slice a n cap] 27)).alloc (.cells #[.int .i64 W', .int .i64 D', .int .i64 S', .slice a' n' cap'] 27)) u1 := Ext.trans (by (repeat (first | assumption | exact Ext.refl _ | (with_reducible refine Ext.stepS ?_ (by first | exact Nat.le_refl _ | (simp; done) | (simp; omega)) _) | (with_reducible refine Ext.stepN ?_ _) | (with_reducible refine Ext.stepD ?_) | (with_reducible refine Ext.stepA ?_ _)))) x1; have EW : Ext w u1 := Ext.trans (by (repeat (first | assumption | exact Ext.refl _ | (with_reducible refine Ext.stepS ?_ (by first | exact Nat.le_refl _ | (simp; done) | (simp; omega)) _) | (with_reducible refine Ext.stepN ?_ _) | (with_reducible refine Ext.stepD ?_) | (with_reducible refine Ext.stepA ?_ _)))) x1; obtain ⟨ka0, ka1, ka2, ka3⟩ := (BX.out.on EA).four; obtain ⟨kb0, kb1, kb2, kb3⟩ := (BY.out.on EA).four) | (go_at_call 58; refine (c_Equal _ _ _ _ _ _ zs ys _ HR.out HM.out HM'.out (H.out.on (by (repeat (first | assumption | exact Ext.refl _ | (with_reducible refine Ext.stepS ?_ (by first | exact Nat.le_refl _ | (simp; done) | (simp; omega)) _) | (with_reducible refine Ext.stepN ?_ _) | (with_reducible refine Ext.stepD ?_) | (with_reducible refine Ext.stepA ?_ _))))) (H'.out.on (by (repeat (first | assumption | exact Ext.refl _ | (with_reducible refine Ext.stepS ?_ (by first | exact Nat.le_refl _ | (simp; done) | (simp; omega)) _) | (with_reducible refine Ext.stepN ?_ _) | (with_reducible refine Ext.stepD ?_) | (with_reducible refine Ext.stepA ?_ _)))))).mono ?_; rintro e u9 ⟨rfl, q9, rfl⟩))
    all_goals
      go_wp2
      go_ret
      exact ⟨rfl, by (repeat (first | assumption | exact Ext.refl _ | (with_reducible refine Ext.stepS ?_ (by first | exact Nat.le_refl _ | (simp; done) | (simp; omega)) _) | (with_reducible refine Ext.stepN ?_ _) | (with_reducible refine Ext.stepD ?_) | (with_reducible refine Ext.stepA ?_ _)))⟩
end Go.Proofs.Ytjckikcndoobnaa
