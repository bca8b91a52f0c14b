/- InFingers: both sides. -/
import Derived.Test.YtfolflkbpdbkcabFih
import Derived.Test.YtfolflkbpdbkcabFii
namespace Go.Proofs.Ytfolflkbpdbkcab
open Go.ChangeShapes Go.WideShapes Go.ChangeAt Go.RowKit
set_option linter.unusedVariables false
theorem opt_ge (r : Option Nat) : (decide (0 ≤ optI (-1) r)) = r.isSome := by
  cases r
  · rfl
  · simp [optI]
theorem c_impl_InFingers (S : Int) (a : Option Addr) (n cap : Nat) (zs : List Int) (key : Int) (w : World) {v b : Bool} (hv : inFinR S zs key = (v, b)) (hm : n ≤ maxLen) (h : Reads w a n (ints zs)) :
    Calls Try.prog 38 #[.agg #[.int .i64 S, .slice a n cap], .int .i64 key] w fun e w' => e = .returned (.tuple #[.bool v, .bool b]) ∧ Ext w w' := by
  have hn := h.int.1
  subst hn
  have H := Lib.hid h
  have BX := Lib.hid (Box.alloc w #[.int .i64 S, .slice a zs.length cap] 41)
  clear h
  cases hc : fgB S zs
  · rw [inFinR_1 hc] at hv
    simp only [Prod.mk.injEq] at hv
    obtain ⟨rfl, rfl⟩ := hv
    have HC := Lib.hid hc
    clear hc
    go_enter Try.func38, Try.ntmps38
    go_wp2_with fail
    refine (c_impl_ValidFingers S a zs.length cap zs _ HC.out hm (H.out.on (by (repeat (first | assumption | exact Ext.refl _ | (with_reducible refine Ext.stepS ?_ (by first | exact Nat.le_refl _ | (simp; done) | (simp; omega)) _) | (with_reducible refine Ext.stepN ?_ _) | (with_reducible refine Ext.stepD ?_) | (with_reducible refine Ext.stepA ?_ _)))))).mono ?_; rintro e u1 ⟨rfl, x1⟩
    have X : Ext w u1 := Ext.trans (by (repeat (first | assumption | exact Ext.refl _ | (with_reducible refine Ext.stepS ?_ (by first | exact Nat.le_refl _ | (simp; done) | (simp; omega)) _) | (with_reducible refine Ext.stepN ?_ _) | (with_reducible refine Ext.stepD ?_) | (with_reducible refine Ext.stepA ?_ _)))) x1
    clear x1
    go_wp2
    go_ret2
    exact ⟨rfl, X⟩
  cases hk : keyB key
  · rw [inFinR_2 hk] at hv
    simp only [Prod.mk.injEq] at hv
    obtain ⟨rfl, rfl⟩ := hv
    have HC := Lib.hid hc
    have HK := Lib.hid hk
    clear hc hk
    go_enter Try.func38, Try.ntmps38
    go_wp2_with fail
    refine (c_impl_ValidFingers S a zs.length cap zs _ HC.out hm (H.out.on (by (repeat (first | assumption | exact Ext.refl _ | (with_reducible refine Ext.stepS ?_ (by first | exact Nat.le_refl _ | (simp; done) | (simp; omega)) _) | (with_reducible refine Ext.stepN ?_ _) | (with_reducible refine Ext.stepD ?_) | (with_reducible refine Ext.stepA ?_ _)))))).mono ?_; rintro e u1 ⟨rfl, x1⟩
    have X : Ext w u1 := Ext.trans (by (repeat (first | assumption | exact Ext.refl _ | (with_reducible refine Ext.stepS ?_ (by first | exact Nat.le_refl _ | (simp; done) | (simp; omega)) _) | (with_reducible refine Ext.stepN ?_ _) | (with_reducible refine Ext.stepD ?_) | (with_reducible refine Ext.stepA ?_ _)))) x1
    clear x1
    go_wp2_with (go_at_call 69; refine (c_impl_IsKey_q key _ HK.out).mono ?_; rintro e w' ⟨rfl, rfl⟩)
    go_ret2
    exact ⟨rfl, X⟩
  obtain ⟨m, ok⟩ := fg_ok hc
  rw [inFinR_y hc hk ok.len] at hv
  simp only [Prod.mk.injEq] at hv
  obtain ⟨hv, rfl⟩ := hv
  have HV := Lib.hid hv
  have HC := Lib.hid hc
  have HK := Lib.hid hk
  have OK := Lib.hid ok
  clear hc hk hv ok
  go_enter Try.func38, Try.ntmps38
  go_wp2_with fail
  refine (c_impl_ValidFingers S a zs.length cap zs _ HC.out hm (H.out.on (by (repeat (first | assumption | exact Ext.refl _ | (with_reducible refine Ext.stepS ?_ (by first | exact Nat.le_refl _ | (simp; done) | (simp; omega)) _) | (with_reducible refine Ext.stepN ?_ _) | (with_reducible refine Ext.stepD ?_) | (with_reducible refine Ext.stepA ?_ _)))))).mono ?_; rintro e u1 ⟨rfl, x1⟩
  have X1 := Lib.hid (show Ext w u1 from Ext.trans (by (repeat (first | assumption | exact Ext.refl _ | (with_reducible refine Ext.stepS ?_ (by first | exact Nat.le_refl _ | (simp; done) | (simp; omega)) _) | (with_reducible refine Ext.stepN ?_ _) | (with_reducible refine Ext.stepD ?_) | (with_reducible refine Ext.stepA ?_ _)))) x1)
  obtain ⟨b0, b1⟩ := (BX.out.on x1).two
  clear x1
  go_wp2_with (go_at_call 69; refine (c_impl_IsKey_q key _ HK.out).mono ?_; rintro e w' ⟨rfl, rfl⟩)
  refine (c_impl_cellOfKey S a zs.length cap m zs key _ rfl OK.out HK.out (H.out.on X1.out)).mono ?_; rintro e u2 ⟨rfl, x2⟩
  have X2 := X1.out.trans x2
  clear x2
  rw [HV.out]
  go_wp2
  go_ret2
  exact ⟨rfl, X2⟩
theorem c_spec_InFingers (S : Int) (a : Option Addr) (n cap : Nat) (zs : List Int) (key : Int) (w : World) {v b : Bool} (hv : inFinR S zs key = (v, b)) (hm : n ≤ maxLen) (h : Reads w a n (ints zs)) :
    Calls Try.prog 37 #[.agg #[.int .i64 S, .slice a n cap], .int .i64 key] w fun e w' => e = .returned (.tuple #[.bool v, .bool b]) ∧ Ext w w' := by
  have hn := h.int.1
  subst hn
  have H := Lib.hid h
  have BX := Lib.hid (Box.alloc w #[.int .i64 S, .slice a zs.length cap] 41)
  clear h
  cases hc : fgB S zs
  · rw [inFinR_1 hc] at hv
    simp only [Prod.mk.injEq] at hv
    obtain ⟨rfl, rfl⟩ := hv
    have HC := Lib.hid hc
    clear hc
    go_enter Try.func37, Try.ntmps37
    go_wp2_with (go_at_call 71; refine (c_spec_l04Fingers w.heap.size S a zs.length cap zs _ HC.out (BX.out.on (by (repeat (first | assumption | exact Ext.refl _ | (with_reducible refine Ext.stepS ?_ (by first | exact Nat.le_refl _ | (simp; done) | (simp; omega)) _) | (with_reducible refine Ext.stepN ?_ _) | (with_reducible refine Ext.stepD ?_) | (with_reducible refine Ext.stepA ?_ _))))) hm (H.out.on (by (repeat (first | assumption | exact Ext.refl _ | (with_reducible refine Ext.stepS ?_ (by first | exact Nat.le_refl _ | (simp; done) | (simp; omega)) _) | (with_reducible refine Ext.stepN ?_ _) | (with_reducible refine Ext.stepD ?_) | (with_reducible refine Ext.stepA ?_ _)))))).mono ?_; rintro e u1 ⟨rfl, q1, rfl⟩)
    go_ret2
    exact ⟨rfl, by (repeat (first | assumption | exact Ext.refl _ | (with_reducible refine Ext.stepS ?_ (by first | exact Nat.le_refl _ | (simp; done) | (simp; omega)) _) | (with_reducible refine Ext.stepN ?_ _) | (with_reducible refine Ext.stepD ?_) | (with_reducible refine Ext.stepA ?_ _)))⟩
  cases hk : keyB key
  · rw [inFinR_2 hk] at hv
    simp only [Prod.mk.injEq] at hv
    obtain ⟨rfl, rfl⟩ := hv
    have HC := Lib.hid hc
    have HK := Lib.hid hk
    clear hc hk
    go_enter Try.func37, Try.ntmps37
    go_wp2_with (first | (go_at_call 71; refine (c_spec_l04Fingers w.heap.size S a zs.length cap zs _ HC.out (BX.out.on (by (repeat (first | assumption | exact Ext.refl _ | (with_reducible refine Ext.stepS ?_ (by first | exact Nat.le_refl _ | (simp; done) | (simp; omega)) _) | (with_reducible refine Ext.stepN ?_ _) | (with_reducible refine Ext.stepD ?_) | (with_reducible refine Ext.stepA ?_ _))))) hm (H.out.on (by (repeat (first | assumption | exact Ext.refl _ | (with_reducible refine Ext.stepS ?_ (by first | exact Nat.le_refl _ | (simp; done) | (simp; omega)) _) | (with_reducible refine Ext.stepN ?_ _) | (with_reducible refine Ext.stepD ?_) | (with_reducible refine Ext.stepA ?_ _)))))).mono ?_; rintro e u1 ⟨rfl, q1, rfl⟩) | (go_at_call 66; refine (c_spec_l02Key_q key _ HK.out).mono ?_; rintro e w' ⟨rfl, rfl⟩))
    go_ret2
    exact ⟨rfl, by (repeat (first | assumption | exact Ext.refl _ | (with_reducible refine Ext.stepS ?_ (by first | exact Nat.le_refl _ | (simp; done) | (simp; omega)) _) | (with_reducible refine Ext.stepN ?_ _) | (with_reducible refine Ext.stepD ?_) | (with_reducible refine Ext.stepA ?_ _)))⟩
  obtain ⟨m, ok⟩ := fg_ok hc
  rw [inFinR_y hc hk ok.len] at hv
  simp only [Prod.mk.injEq] at hv
  obtain ⟨hv, rfl⟩ := hv
  obtain ⟨f, hf⟩ : ∃ f, fingN key S = f := ⟨_, rfl⟩
  obtain ⟨hs, hhs⟩ : ∃ h, houseN key S m = h := ⟨_, rfl⟩
  obtain ⟨o, ho⟩ : ∃ o, otherN (f : Nat) S m hs = o := ⟨_, rfl⟩
  have hfb := fingN_bd key S
  rw [hf] at hfb
  have hlm : hs < m := by rw [← hhs]; exact belowN_lt key _ m ok.m1
  have holm : o < m := by rw [← ho]; exact otherN_lt ok.pow hlm
  obtain ⟨r, hr⟩ : ∃ r, firstC zs (f : Nat) (houseC (two hs o)) 4 0 = r := ⟨_, rfl⟩
  have HV := Lib.hid (show v = r.isSome by rw [← hv, ← hr, ← ho, ← hhs, ← hf]; rfl)
  have HGE := Lib.hid (opt_ge r)
  have HF := Lib.hid hf
  have HHS := Lib.hid hhs
  have HO := Lib.hid ho
  have HR := Lib.hid hr
  have HKF := Lib.hid (show keyB (f : Nat) = true from keyB_true (by omega) (by omega))
  have HC := Lib.hid hc
  have HK := Lib.hid hk
  have OK := Lib.hid ok
  obtain ⟨i, hi⟩ : ∃ i, optI (-1) r = i := ⟨_, rfl⟩
  rw [hi] at HGE
  have HI := Lib.hid hi
  have hl := ok.len
  have HL := Lib.hid hl
  have hm8 := ok.m128
  clear hc hk hv ok hf hhs ho hr hi hl
  go_enter Try.func37, Try.ntmps37
  go_wp2_with (first | (go_at_call 71; refine (c_spec_l04Fingers w.heap.size S a zs.length cap zs _ HC.out (BX.out.on (by (repeat (first | assumption | exact Ext.refl _ | (with_reducible refine Ext.stepS ?_ (by first | exact Nat.le_refl _ | (simp; done) | (simp; omega)) _) | (with_reducible refine Ext.stepN ?_ _) | (with_reducible refine Ext.stepD ?_) | (with_reducible refine Ext.stepA ?_ _))))) hm (H.out.on (by (repeat (first | assumption | exact Ext.refl _ | (with_reducible refine Ext.stepS ?_ (by first | exact Nat.le_refl _ | (simp; done) | (simp; omega)) _) | (with_reducible refine Ext.stepN ?_ _) | (with_reducible refine Ext.stepD ?_) | (with_reducible refine Ext.stepA ?_ _)))))).mono ?_; rintro e u1 ⟨rfl, q1, rfl⟩) | (go_at_call 66; refine (c_spec_l02Key_q key _ HK.out).mono ?_; rintro e w' ⟨rfl, rfl⟩))
  refine (c_spec_l04Finger w.heap.size S a zs.length cap m key f hs _ HL.out hm8 OK.out.key HK.out HF.out HHS.out (BX.out.on (by (repeat (first | assumption | exact Ext.refl _ | (with_reducible refine Ext.stepS ?_ (by first | exact Nat.le_refl _ | (simp; done) | (simp; omega)) _) | (with_reducible refine Ext.stepN ?_ _) | (with_reducible refine Ext.stepD ?_) | (with_reducible refine Ext.stepA ?_ _)))))).mono ?_; rintro e u1 ⟨rfl, q2, rfl⟩
  go_wp2_with fail
  refine (c_spec_l04Find w.heap.size S a zs.length cap m zs (f : Nat) hs o (f : Nat) _ HR.out HL.out hm8 OK.out.key HKF.out HO.out hlm holm (H.out.on (by (repeat (first | assumption | exact Ext.refl _ | (with_reducible refine Ext.stepS ?_ (by first | exact Nat.le_refl _ | (simp; done) | (simp; omega)) _) | (with_reducible refine Ext.stepN ?_ _) | (with_reducible refine Ext.stepD ?_) | (with_reducible refine Ext.stepA ?_ _))))) (BX.out.on (by (repeat (first | assumption | exact Ext.refl _ | (with_reducible refine Ext.stepS ?_ (by first | exact Nat.le_refl _ | (simp; done) | (simp; omega)) _) | (with_reducible refine Ext.stepN ?_ _) | (with_reducible refine Ext.stepD ?_) | (with_reducible refine Ext.stepA ?_ _)))))).mono ?_; rw [HI.out]; rintro e u3 ⟨rfl, x3⟩
  have X3 : Ext w u3 := Ext.trans (by (repeat (first | assumption | exact Ext.refl _ | (with_reducible refine Ext.stepS ?_ (by first | exact Nat.le_refl _ | (simp; done) | (simp; omega)) _) | (with_reducible refine Ext.stepN ?_ _) | (with_reducible refine Ext.stepD ?_) | (with_reducible refine Ext.stepA ?_ _)))) x3
  clear x3
  go_wp2
  go_ret2
  exact ⟨by rw [HV.out, ← HGE.out]; first | rfl | simp, by first | exact X3 | (repeat (first | assumption | exact Ext.refl _ | (with_reducible refine Ext.stepS ?_ (by first | exact Nat.le_refl _ | (simp; done) | (simp; omega)) _) | (with_reducible refine Ext.stepN ?_ _) | (with_reducible refine Ext.stepD ?_) | (with_reducible refine Ext.stepA ?_ _)))⟩
end Go.Proofs.Ytfolflkbpdbkcab
