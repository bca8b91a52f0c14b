/- Structs of integers and a slice: what the laws' helpers answer. -/
import Derived.Test.YtgejfeedcphfkaaDoorLcl
import Derived.Test.YtgejfeedcphfkaaDoorKin
import Derived.Test.YtgejfeedcphfkaaDoorBls
namespace Go.Proofs.YtgejfeedcphfkaaDoor
open Go.ChangeShapes Go.WideShapes Go.ChangeAt Go.RowKit
set_option linter.unusedVariables false
theorem c_szV_ok (R S : Int) (a : Option Addr) (n cap l : Nat) (w : World) (h : n ≤ l) (hl : l ≤ 1048576) : Calls Tryd.prog 15 #[.agg #[.int .i64 R, .int .i64 S, .slice a n cap], .int .i64 l] w fun e w' => e = .returned (.int .i64 ((l - n : Nat) : Int)) ∧ Ext w w' := by
  have h2 : (0 : Int) ≤ ((l - n : Nat) : Int) := by omega
  obtain ⟨r, hr⟩ : ∃ r : Nat, l - n = r := ⟨_, rfl⟩
  rw [hr] at h2 ⊢
  have R' := Lib.hid hr
  clear hr
  go_enter Tryd.func15, Tryd.ntmps15
  go_wp2_with (go_at_call 48; refine (c_szB_ok _ _ _ l _ h hl).mono ?_; rw [R'.out]; rintro e w' ⟨rfl, rfl⟩)
  go_ret
  exact ⟨rfl, (Ext.refl _).stepA _⟩
theorem c_szV_no (R S : Int) (a : Option Addr) (n cap l : Nat) (w : World) (h : l < n) (hl : l ≤ 1048576) (hn : n ≤ maxLen) : Calls Tryd.prog 15 #[.agg #[.int .i64 R, .int .i64 S, .slice a n cap], .int .i64 l] w fun e w' => e = .returned (.int .i64 (-1)) ∧ Ext w w' := by
  go_enter Tryd.func15, Tryd.ntmps15
  go_wp2_with (go_at_call 48; refine (c_szB_no _ _ _ l _ h hl hn).mono ?_; rintro e w' ⟨rfl, rfl⟩)
  go_ret
  exact ⟨rfl, (Ext.refl _).stepA _⟩
set_option maxHeartbeats 1000000 in
theorem c_toV (R S : Int) (a : Option Addr) (n cap : Nat) (zs : List Bool) (w : World) (hl : n ≤ 1048576) (h : Reads w a n (bools zs)) :
    Calls Tryd.prog 17 #[.agg #[.int .i64 R, .int .i64 S, .slice a n cap]] w (RetKV 4 ⟨R, S, zs⟩ w) := by
  have hz := h.bool.1
  subst hz
  have H := Lib.hid h
  clear h
  have BR := Lib.hid (Box.alloc_at (w.alloc (.cells #[.int .i64 R, .int .i64 S, .slice a zs.length cap] 34)) #[.int .i64 0, .int .i64 0, .slice none 0 0] 37 (b := w.heap.size + 1) (by simp))
  have BO := Lib.hid (Box.alloc_at ((w.alloc (.cells #[.int .i64 R, .int .i64 S, .slice a zs.length cap] 34)).alloc (.cells #[.int .i64 0, .int .i64 0, .slice none 0 0] 37)) #[.int .i64 R, .int .i64 S, .slice none 0 0] 37 (b := w.heap.size + 2) (by simp))
  go_enter Tryd.func17, Tryd.ntmps17
  go_wp2_with fail
  refine (c_toB _ _ _ zs _ hl (H.out.on (((Ext.refl w).stepA _ |>.stepA _) |>.stepA _))).mono ?_; rintro e u1 ⟨a', c', rfl, o', x1⟩
  have BO1 := Lib.hid (BO.out.on x1)
  have BR1 := Lib.hid ((BR.out.past _).on x1)
  have O := Lib.hid o'
  have X := (((Ext.refl w).stepA _ |>.stepA _) |>.stepA _).trans x1
  obtain ⟨b0, b1, b2⟩ := BO1.out.three
  obtain ⟨f0, f1, f2, -⟩ := BO1.out.free
  obtain ⟨r0, r1, r2⟩ := BR1.out.three
  obtain ⟨g0, g1, g2, -⟩ := BR1.out.free
  have hs1 := x1.size
  simp at hs1
  clear x1 o'
  go_wp2
  refine bodyPost_ret (v := .agg #[.int .i64 R, .int .i64 S, .slice a' zs.length c']) (by simp [results, Tryd.results17, go_sem, r0, r1, r2]) rfl ⟨a', c', rfl, ?_, ?_⟩
  · refine own_touch O.out (lo' := w.heap.size + 1) (hi' := w.heap.size + 3) ?_ (by first | omega | (simp; done) | (simp; omega)) (by first | omega | (simp; done) | (simp; omega)) (Nat.le_refl _)
    (repeat (first | assumption | exact Touch.refl _ _ _ | (with_reducible refine Touch.stepS ?_ (by first | exact Nat.le_refl _ | (simp; done) | (simp; omega)) (by first | (simp; done) | (simp; omega)) _) | (with_reducible refine Touch.stepN ?_ _) | (with_reducible refine Touch.stepA ?_ _)))
  · (repeat (first | assumption | exact Ext.refl _ | (with_reducible refine Ext.stepS ?_ (by first | exact Nat.le_refl _ | (simp; done) | (simp; omega)) _) | (with_reducible refine Ext.stepN ?_ _) | (with_reducible refine Ext.stepD ?_) | (with_reducible refine Ext.stepA ?_ _)))
theorem c_eqV (R S : Int) (a a' : Option Addr) (n cap cap' : Nat) (zs : List Bool) (w : World) (hm : n ≤ 1048576) (h : Reads w a n (bools zs)) (h' : Reads w a' n (bools zs)) :
    Calls Tryd.prog 19 #[.agg #[.int .i64 R, .int .i64 S, .slice a n cap], .agg #[.int .i64 R, .int .i64 S, .slice a' n cap']] w fun e w' => e = .returned (.bool true) ∧ Ext w w' := by
  have H := Lib.hid h
  have H' := Lib.hid h'
  clear h h'
  go_enter Tryd.func19, Tryd.ntmps19
  go_wp2_with fail
  refine (c_eqB_E _ _ _ _ _ zs _ hm (H.out.on ((Ext.refl w).stepA _ |>.stepA _)) (H'.out.on ((Ext.refl w).stepA _ |>.stepA _))).mono ?_; rintro e u1 ⟨rfl, x1⟩
  have X := ((Ext.refl w).stepA _ |>.stepA _).trans x1
  clear x1
  go_wp2
  go_ret
  exact ⟨rfl, X⟩
end Go.Proofs.YtgejfeedcphfkaaDoor
