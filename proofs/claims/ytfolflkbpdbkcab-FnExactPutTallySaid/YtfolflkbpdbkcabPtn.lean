/- PutTally, OutTally: the other side. -/
import Derived.Test.YtfolflkbpdbkcabPtm
namespace Go.Proofs.Ytfolflkbpdbkcab
open Go.ChangeShapes Go.WideShapes Go.ChangeAt Go.RowKit
set_option linter.unusedVariables false
theorem c_spec_PutTally (R S : Int) (a : Option Addr) (n cap : Nat) (zs : List Int) (key : Int) (w : World) {V : TV} {v : Bool} (hv : changeT R S zs key 1 = (V, v)) (hm : n ≤ maxLen) (h : Reads w a n (ints zs)) :
    Calls Try.prog 20 #[.agg #[.int .i64 R, .int .i64 S, .slice a n cap], .int .i64 key] w (RetKTB 2 V v w) := by
  have H := Lib.hid h
  have HV := Lib.hid hv
  clear h hv
  go_enter Try.func20, Try.ntmps20
  go_wp2_with fail
  refine (c_spec_l04Add w.heap.size R S a n cap zs key 1 _ HV.out (by decide) hm (H.out.on (by (repeat (first | assumption | exact Ext.refl _ | (with_reducible refine Ext.stepS ?_ (by first | exact Nat.le_refl _ | (simp; done) | (simp; omega)) _) | (with_reducible refine Ext.stepN ?_ _) | (with_reducible refine Ext.stepD ?_) | (with_reducible refine Ext.stepA ?_ _))))) ((Box.alloc w #[.int .i64 R, .int .i64 S, .slice a n cap] 27).on (by (repeat (first | assumption | exact Ext.refl _ | (with_reducible refine Ext.stepS ?_ (by first | exact Nat.le_refl _ | (simp; done) | (simp; omega)) _) | (with_reducible refine Ext.stepN ?_ _) | (with_reducible refine Ext.stepD ?_) | (with_reducible refine Ext.stepA ?_ _)))))).mono ?_; rintro e u1 ⟨ra, rc, rfl, o', x'⟩
  have BZ1 := Lib.hid ((Box.alloc_at (w.alloc (.cells #[.int .i64 R, .int .i64 S, .slice a n cap] 27)) #[.int .i64 0, .int .i64 0, .slice none 0 0] 27 (b := w.heap.size + 1) (by simp)).on x')
  have X1 : Ext w u1 := Ext.trans (by (repeat (first | assumption | exact Ext.refl _ | (with_reducible refine Ext.stepS ?_ (by first | exact Nat.le_refl _ | (simp; done) | (simp; omega)) _) | (with_reducible refine Ext.stepN ?_ _) | (with_reducible refine Ext.stepD ?_) | (with_reducible refine Ext.stepA ?_ _)))) x'
  have HO := Lib.hid o'
  have HSZ := Lib.hid (show w.heap.size + 2 ≤ u1.heap.size from Nat.le_trans (by first | omega | (simp; done) | (simp; omega)) x'.size)
  obtain ⟨z0, z1, z2⟩ := BZ1.out.three
  obtain ⟨f0, f1, f2, f3⟩ := BZ1.out.free
  clear o' x'
  go_wp2
  refine bodyPost_ret (v := .tuple #[.agg #[.int .i64 V.R, .int .i64 V.S, .slice ra V.zs.length rc], .bool v]) (by simp [results, Try.results20, go_sem, z0, z1, z2]) rfl ⟨_, _, rfl, ?_, ?_⟩
  · refine own_touch HO.out (lo' := w.heap.size + 1) (hi' := w.heap.size + 2) ?_ (by first | omega | (simp; done) | (simp; omega)) (by first | omega | (simp; done) | (simp; omega)) (Nat.le_refl _)
    (repeat (first | assumption | exact Touch.refl _ _ _ | (with_reducible refine Touch.stepS ?_ (by first | exact Nat.le_refl _ | (simp; done) | (simp; omega)) (by first | (simp; done) | (simp; omega)) _) | (with_reducible refine Touch.stepN ?_ _) | (with_reducible refine Touch.stepA ?_ _)))
  · (repeat (first | assumption | exact Ext.refl _ | (with_reducible refine Ext.stepS ?_ (by first | exact Nat.le_refl _ | (simp; done) | (simp; omega)) _) | (with_reducible refine Ext.stepN ?_ _) | (with_reducible refine Ext.stepD ?_) | (with_reducible refine Ext.stepA ?_ _)))
theorem c_spec_OutTally (R S : Int) (a : Option Addr) (n cap : Nat) (zs : List Int) (key : Int) (w : World) {V : TV} {v : Bool} (hv : changeT R S zs key (-1) = (V, v)) (hm : n ≤ maxLen) (h : Reads w a n (ints zs)) :
    Calls Try.prog 24 #[.agg #[.int .i64 R, .int .i64 S, .slice a n cap], .int .i64 key] w (RetKTB 2 V v w) := by
  have H := Lib.hid h
  have HV := Lib.hid hv
  clear h hv
  go_enter Try.func24, Try.ntmps24
  go_wp2_with fail
  refine (c_spec_l04Add w.heap.size R S a n cap zs key (-1) _ HV.out (by decide) hm (H.out.on (by (repeat (first | assumption | exact Ext.refl _ | (with_reducible refine Ext.stepS ?_ (by first | exact Nat.le_refl _ | (simp; done) | (simp; omega)) _) | (with_reducible refine Ext.stepN ?_ _) | (with_reducible refine Ext.stepD ?_) | (with_reducible refine Ext.stepA ?_ _))))) ((Box.alloc w #[.int .i64 R, .int .i64 S, .slice a n cap] 27).on (by (repeat (first | assumption | exact Ext.refl _ | (with_reducible refine Ext.stepS ?_ (by first | exact Nat.le_refl _ | (simp; done) | (simp; omega)) _) | (with_reducible refine Ext.stepN ?_ _) | (with_reducible refine Ext.stepD ?_) | (with_reducible refine Ext.stepA ?_ _)))))).mono ?_; rintro e u1 ⟨ra, rc, rfl, o', x'⟩
  have BZ1 := Lib.hid ((Box.alloc_at (w.alloc (.cells #[.int .i64 R, .int .i64 S, .slice a n cap] 27)) #[.int .i64 0, .int .i64 0, .slice none 0 0] 27 (b := w.heap.size + 1) (by simp)).on x')
  have X1 : Ext w u1 := Ext.trans (by (repeat (first | assumption | exact Ext.refl _ | (with_reducible refine Ext.stepS ?_ (by first | exact Nat.le_refl _ | (simp; done) | (simp; omega)) _) | (with_reducible refine Ext.stepN ?_ _) | (with_reducible refine Ext.stepD ?_) | (with_reducible refine Ext.stepA ?_ _)))) x'
  have HO := Lib.hid o'
  have HSZ := Lib.hid (show w.heap.size + 2 ≤ u1.heap.size from Nat.le_trans (by first | omega | (simp; done) | (simp; omega)) x'.size)
  obtain ⟨z0, z1, z2⟩ := BZ1.out.three
  obtain ⟨f0, f1, f2, f3⟩ := BZ1.out.free
  clear o' x'
  go_wp2
  refine bodyPost_ret (v := .tuple #[.agg #[.int .i64 V.R, .int .i64 V.S, .slice ra V.zs.length rc], .bool v]) (by simp [results, Try.results24, go_sem, z0, z1, z2]) rfl ⟨_, _, rfl, ?_, ?_⟩
  · refine own_touch HO.out (lo' := w.heap.size + 1) (hi' := w.heap.size + 2) ?_ (by first | omega | (simp; done) | (simp; omega)) (by first | omega | (simp; done) | (simp; omega)) (Nat.le_refl _)
    (repeat (first | assumption | exact Touch.refl _ _ _ | (with_reducible refine Touch.stepS ?_ (by first | exact Nat.le_refl _ | (simp; done) | (simp; omega)) (by first | (simp; done) | (simp; omega)) _) | (with_reducible refine Touch.stepN ?_ _) | (with_reducible refine Touch.stepA ?_ _)))
  · (repeat (first | assumption | exact Ext.refl _ | (with_reducible refine Ext.stepS ?_ (by first | exact Nat.le_refl _ | (simp; done) | (simp; omega)) _) | (with_reducible refine Ext.stepN ?_ _) | (with_reducible refine Ext.stepD ?_) | (with_reducible refine Ext.stepA ?_ _)))
end Go.Proofs.Ytfolflkbpdbkcab
