/- SignedNorm on the program's side. -/
import Derived.Test.YtedejnehiihmkaaRdu
namespace Go.Proofs.Ytedejnehiihmkaa
open Go.ChangeShapes Go.WideShapes Go.ChangeAt Go.RowKit
set_option linter.unusedVariables false
theorem mergeB_self (W D S : Int) (zs : List Int) : mergeB W D S zs W D S zs = cellsB W D S zs := by unfold mergeB shapeB; simp
theorem dotsB_self (W D S : Int) (zs : List Int) : dotsB W D S zs W D S zs = (cellsB W D S zs && manyB 1000000 zs) := by unfold dotsB; rw [mergeB_self, Bool.and_assoc, Bool.and_self]
set_option maxRecDepth 100000 in
set_option maxHeartbeats 4000000 in
theorem c_impl_SignedNorm (W D S : Int) (a : Option Addr) (n cap : Nat) (zs : List Int) (w : World) {v : Int} {b : Bool} (hv : normR W D S zs = (v, b)) (hm : n ≤ maxLen) (hcap : n ≤ cap ∧ cap ≤ maxLen) (h : Reads w a n (ints zs)) :
    Calls Try.prog 15 #[.agg #[.int .i64 W, .int .i64 D, .int .i64 S, .slice a n cap]] w fun e w' => e = .returned (.tuple #[.int .i64 v, .bool b]) ∧ Ext w w' := by
  have H := Lib.hid h
  have HM := Lib.hid hm
  have HCP := Lib.hid hcap
  have BX := Lib.hid (Box.alloc w #[.int .i64 W, .int .i64 D, .int .i64 S, .slice a n cap] 28)
  clear h hm hcap
  cases hb : cellsB W D S zs && manyB 1000000 zs
  · rw [normR_no hb] at hv
    simp only [Prod.mk.injEq] at hv
    obtain ⟨rfl, rfl⟩ := hv
    have HB := Lib.hid ((dotsB_self W D S zs).trans hb)
    clear hb
    go_enter Try.func15, Try.ntmps15
    go_wp2_with fail
    refine (c_impl_rowDots_no W D S a n cap zs W D S a n cap zs _ HB.out HM.out (H.out.on (by (repeat (first | assumption | exact Ext.refl _ | (with_reducible refine Ext.stepS ?_ (by first | exact Nat.le_refl _ | (simp; done) | (simp; omega)) _) | (with_reducible refine Ext.stepN ?_ _) | (with_reducible refine Ext.stepD ?_) | (with_reducible refine Ext.stepA ?_ _))))) HM.out (H.out.on (by (repeat (first | assumption | exact Ext.refl _ | (with_reducible refine Ext.stepS ?_ (by first | exact Nat.le_refl _ | (simp; done) | (simp; omega)) _) | (with_reducible refine Ext.stepN ?_ _) | (with_reducible refine Ext.stepD ?_) | (with_reducible refine Ext.stepA ?_ _)))))).mono ?_; rintro e wa ⟨rfl, x'⟩
    have X1 : Ext w wa := (Ext.alloc _ _).trans x'
    clear x'
    go_wp2
    go_ret2
    exact ⟨rfl, X1⟩
  · rw [Bool.and_eq_true] at hb
    obtain ⟨hc, hs⟩ := hb
    obtain ⟨m, d, rfl, rfl, ok⟩ := cells_ok hc
    rw [normR_y ok hs] at hv
    simp only [Prod.mk.injEq] at hv
    obtain ⟨rfl, rfl⟩ := hv
    have hd1 := ok.d1
    have hd6 := ok.d6
    have OK := Lib.hid ok
    have HS := Lib.hid hs
    clear hc hs ok
    go_enter Try.func15, Try.ntmps15
    go_wp2_with fail
    refine (c_impl_rowDots m d S a n cap zs a n cap zs _ OK.out OK.out HS.out HS.out HM.out HCP.out (H.out.on (by (repeat (first | assumption | exact Ext.refl _ | (with_reducible refine Ext.stepS ?_ (by first | exact Nat.le_refl _ | (simp; done) | (simp; omega)) _) | (with_reducible refine Ext.stepN ?_ _) | (with_reducible refine Ext.stepD ?_) | (with_reducible refine Ext.stepA ?_ _))))) HM.out HCP.out (H.out.on (by (repeat (first | assumption | exact Ext.refl _ | (with_reducible refine Ext.stepS ?_ (by first | exact Nat.le_refl _ | (simp; done) | (simp; omega)) _) | (with_reducible refine Ext.stepN ?_ _) | (with_reducible refine Ext.stepD ?_) | (with_reducible refine Ext.stepA ?_ _)))))).mono ?_; rintro e wa ⟨pa, pc, rfl, o', x'⟩
    obtain ⟨g, f, rfl, hg, hgh, hpl, hpc, hrow⟩ := o'.rowT (by omega)
    have X1 := Lib.hid (show Ext w wa from (Ext.alloc _ _).trans x')
    have HG := Lib.hid (show w.heap.size ≤ g from Nat.le_trans (by first | omega | (simp; done) | (simp; omega)) hg)
    have HR := Lib.hid hrow
    have HPC := Lib.hid hpc
    clear o' x' hg hgh hpl hrow hpc
    go_wp2_with fail
    refine (c_medianOf g d pc (dotsZ m d zs zs) f _ hd1 (by omega) (dotsZ_length _ _ _ _) HPC.out HR.out).mono ?_; rintro e wz ⟨rfl, tz⟩
    have XZ : Ext w wz := Touch.ext X1.out tz HG.out
    clear tz
    go_wp2
    go_ret2
    exact ⟨rfl, XZ⟩
end Go.Proofs.Ytedejnehiihmkaa
