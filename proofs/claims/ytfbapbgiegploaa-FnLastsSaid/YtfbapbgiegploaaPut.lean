/- Cells: puts, on both sides. -/
import Derived.Test.YtfbapbgiegploaaPla
import Derived.Deep.RegionHeld3
import Derived.Deep.RegionLaw
import Derived.Deep.AppendLies
namespace Go.Proofs.Ytfbapbgiegploaa
open Go.ChangeShapes Go.WideShapes Go.ChangeAt Go.RowKit
set_option linter.unusedVariables false
theorem Touch.of_drew {lo hi : Nat} {w w' : World} (h : Touch lo hi w w') (q : Nat) : Touch lo hi w (w'.drewN q) := h.trans (Touch.of_ext (Ext.drewN _ _) _ _)
theorem Touch.one {w w' : World} {g : Nat} (h : Touch g (g + 1) w w') (i : Nat) (v : Value) : Touch g (g + 1) w (w'.setCell ⟨g, i, none⟩ v) := h.trans (Touch.setCell _ (a := ⟨g, i, none⟩) (Nat.le_refl _) (Nat.lt_succ_self _) _)
theorem wrap_put {x y : Int} (h1 : -1000000000000 ≤ x) (h2 : x ≤ 1000000000000) (h3 : -1000000 ≤ y) (h4 : y ≤ 1000000) : IntKind.i64.wrap (x + y) = x + y := by rw [IntKind.wrap_i64]; omega
theorem c_impl_cellsIfValid_no (W D S : Int) (a : Option Addr) (n cap : Nat) (zs : List Int) (w : World) (hr : cellsB W D S zs = false) (hm : n ≤ maxLen) (h : Reads w a n (ints zs)) :
    Calls Try.prog 144 #[.agg #[.int .i64 W, .int .i64 D, .int .i64 S, .slice a n cap]] w fun e w' => e = .returned (.tuple #[.agg #[.int .i64 0, .int .i64 0, .int .i64 0, .slice none 0 0], .bool false]) ∧ Ext w w' := by
  have H := Lib.hid h
  have HR := Lib.hid hr
  clear h hr
  go_enter Try.func144, Try.ntmps144
  go_wp2_with fail
  refine (c_impl_ValidCells W D S a n cap zs _ HR.out hm (H.out.on ((Ext.refl _).stepA _ |>.stepA _))).mono ?_; rintro e u1 ⟨rfl, x1⟩
  have X := ((Ext.refl w).stepA _ |>.stepA _).trans x1
  have BZ := Lib.hid ((Box.alloc_at (w.alloc (.cells #[.int .i64 W, .int .i64 D, .int .i64 S, .slice a n cap] 57)) #[.int .i64 0, .int .i64 0, .int .i64 0, .slice none 0 0] 57 (b := w.heap.size + 1) (by simp)).on x1)
  obtain ⟨z0, z1, z2, z3⟩ := BZ.out.four
  obtain ⟨f0, f1, f2, f3⟩ := BZ.out.free
  clear x1
  go_wp2
  refine bodyPost_ret (v := .tuple #[.agg #[.int .i64 0, .int .i64 0, .int .i64 0, .slice none 0 0], .bool false]) (by simp [results, Try.results144, go_sem, z0, z1, z2, z3]) rfl ⟨rfl, ?_⟩
  (repeat (first | assumption | exact Ext.refl _ | (with_reducible refine Ext.stepS ?_ (by first | exact Nat.le_refl _ | (simp; done) | (simp; omega)) _) | (with_reducible refine Ext.stepN ?_ _) | (with_reducible refine Ext.stepD ?_) | (with_reducible refine Ext.stepA ?_ _)))
theorem c_impl_cellsIfValid (W D S : Int) (a : Option Addr) (n cap : Nat) (zs : List Int) (w : World) (hr : cellsB W D S zs = true) (hm : n ≤ maxLen) (h : Reads w a n (ints zs)) :
    Calls Try.prog 144 #[.agg #[.int .i64 W, .int .i64 D, .int .i64 S, .slice a n cap]] w fun e w' => e = .returned (.tuple #[.agg #[.int .i64 W, .int .i64 D, .int .i64 S, .slice a n cap], .bool true]) ∧ Ext w w' := by
  have H := Lib.hid h
  have HR := Lib.hid hr
  clear h hr
  go_enter Try.func144, Try.ntmps144
  go_wp2_with fail
  refine (c_impl_ValidCells W D S a n cap zs _ HR.out hm (H.out.on ((Ext.refl _).stepA _ |>.stepA _))).mono ?_; rintro e u1 ⟨rfl, x1⟩
  have X := ((Ext.refl w).stepA _ |>.stepA _).trans x1
  have BX := Lib.hid (((Box.alloc w #[.int .i64 W, .int .i64 D, .int .i64 S, .slice a n cap] 57).past _).on x1)
  have BZ := Lib.hid ((Box.alloc_at (w.alloc (.cells #[.int .i64 W, .int .i64 D, .int .i64 S, .slice a n cap] 57)) #[.int .i64 0, .int .i64 0, .int .i64 0, .slice none 0 0] 57 (b := w.heap.size + 1) (by simp)).on x1)
  obtain ⟨b0, b1, b2, b3⟩ := BX.out.four
  obtain ⟨z0, z1, z2, z3⟩ := BZ.out.four
  obtain ⟨f0, f1, f2, f3⟩ := BZ.out.free
  clear x1
  go_wp2
  refine bodyPost_ret (v := .tuple #[.agg #[.int .i64 W, .int .i64 D, .int .i64 S, .slice a n cap], .bool true]) (by simp [results, Try.results144, go_sem, z0, z1, z2, z3]) rfl ⟨rfl, ?_⟩
  (repeat (first | assumption | exact Ext.refl _ | (with_reducible refine Ext.stepS ?_ (by first | exact Nat.le_refl _ | (simp; done) | (simp; omega)) _) | (with_reducible refine Ext.stepN ?_ _) | (with_reducible refine Ext.stepD ?_) | (with_reducible refine Ext.stepA ?_ _)))
end Go.Proofs.Ytfbapbgiegploaa
