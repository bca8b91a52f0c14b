/- FullOfSieve, FalseShare: both sides. -/
import Derived.Test.YtfolflkbpdbkcaaFul
namespace Go.Proofs.Ytfolflkbpdbkcaa
open Go.ChangeShapes Go.WideShapes Go.ChangeAt Go.RowKit Go.Proofs.Ytfolflkbpdbkcaa.Flo
set_option linter.unusedVariables false
attribute [local go_sem] run_fl_add run_fl_sub run_fl_mul run_fl_quo run_conv run_store_float run_store_complex
def powV (F : Option Nat) : Nat → Option Nat
  | 0 => F
  | k + 1 => fop .mul .f32 (powV F k) F
def shareR (R S : Int) (bs : List Bool) : Option Nat × Bool := if gridB R S bs.length then (powV (fullV bs) (R.toNat - 1), true) else (some 0, false)
theorem shareR_no {R S : Int} {bs : List Bool} (h : gridB R S bs.length = false) : shareR R S bs = (some 0, false) := by unfold shareR; rw [h]; rfl
theorem shareR_y {r : Nat} {S : Int} {bs : List Bool} (h : gridB r S bs.length = true) : shareR r S bs = (powV (fullV bs) (r - 1), true) := by unfold shareR; rw [h]; rfl
theorem c_spec_FullOfSieve (R S : Int) (a : Option Addr) (n cap : Nat) (bs : List Bool) (w : World) {v : Option Nat} {b : Bool} (hv : fullR R S bs = (v, b)) (hm : n ≤ maxLen) (h : Reads w a n (bools bs)) :
    Calls Try.prog 39 #[.agg #[.int .i64 R, .int .i64 S, .slice a n cap]] w (RetFE v b w) := by
  have hn := h.bool.1
  subst hn
  have H := Lib.hid h
  have BX := Lib.hid (Box.alloc w #[.int .i64 R, .int .i64 S, .slice a bs.length cap] 27)
  clear h
  cases hc : gridB R S bs.length
  · rw [fullR_no hc] at hv
    simp only [Prod.mk.injEq] at hv
    obtain ⟨rfl, rfl⟩ := hv
    have HC := Lib.hid hc
    clear hc
    go_enter Try.func39, Try.ntmps39
    go_wp2_with (go_at_call 49; refine (c_spec_l04Is w.heap.size R S a bs.length cap _ HC.out (BX.out.on (by (repeat (first | assumption | exact Ext.refl _ | (with_reducible refine Ext.stepS ?_ (by first | exact Nat.le_refl _ | (simp; done) | (simp; omega)) _) | (with_reducible refine Ext.stepN ?_ _) | (with_reducible refine Ext.stepD ?_) | (with_reducible refine Ext.stepA ?_ _))))) hm).mono ?_; rintro e u1 ⟨rfl, q, rfl⟩)
    go_ret2
    exact RetFE.no _ _ (by (repeat (first | assumption | exact Ext.refl _ | (with_reducible refine Ext.stepS ?_ (by first | exact Nat.le_refl _ | (simp; done) | (simp; omega)) _) | (with_reducible refine Ext.stepN ?_ _) | (with_reducible refine Ext.stepD ?_) | (with_reducible refine Ext.stepA ?_ _))))
  rw [fullR_y hc] at hv
  simp only [Prod.mk.injEq] at hv
  obtain ⟨hv, rfl⟩ := hv
  obtain ⟨r, m, hr1, hm1, ok⟩ := grid_ok hc
  have hn1 : 1 ≤ bs.length := by have := ok.n1; omega
  have hn5 : bs.length ≤ 512 := by have := ok.n512; omega
  have HV := Lib.hid hv
  have HC := Lib.hid hc
  clear hv hc hr1 hm1 ok
  go_enter Try.func39, Try.ntmps39
  go_wp2_with (go_at_call 49; refine (c_spec_l04Is w.heap.size R S a bs.length cap _ HC.out (BX.out.on (by (repeat (first | assumption | exact Ext.refl _ | (with_reducible refine Ext.stepS ?_ (by first | exact Nat.le_refl _ | (simp; done) | (simp; omega)) _) | (with_reducible refine Ext.stepN ?_ _) | (with_reducible refine Ext.stepD ?_) | (with_reducible refine Ext.stepA ?_ _))))) hm).mono ?_; rintro e u1 ⟨rfl, q, rfl⟩)
  refine (c_spec_l04Full w.heap.size R S a bs.length cap bs _ hn5 hn1 (H.out.on (by (repeat (first | assumption | exact Ext.refl _ | (with_reducible refine Ext.stepS ?_ (by first | exact Nat.le_refl _ | (simp; done) | (simp; omega)) _) | (with_reducible refine Ext.stepN ?_ _) | (with_reducible refine Ext.stepD ?_) | (with_reducible refine Ext.stepA ?_ _))))) (BX.out.on (by (repeat (first | assumption | exact Ext.refl _ | (with_reducible refine Ext.stepS ?_ (by first | exact Nat.le_refl _ | (simp; done) | (simp; omega)) _) | (with_reducible refine Ext.stepN ?_ _) | (with_reducible refine Ext.stepD ?_) | (with_reducible refine Ext.stepA ?_ _)))))).mono ?_; rintro e u2 ⟨x, rfl, hx, x2⟩
  have X2 : Ext w u2 := Ext.trans (by (repeat (first | assumption | exact Ext.refl _ | (with_reducible refine Ext.stepS ?_ (by first | exact Nat.le_refl _ | (simp; done) | (simp; omega)) _) | (with_reducible refine Ext.stepN ?_ _) | (with_reducible refine Ext.stepD ?_) | (with_reducible refine Ext.stepA ?_ _)))) x2
  have HX := Lib.hid hx
  clear x2 hx
  go_wp2
  go_ret2
  exact ⟨x, rfl, by rw [HX.out, HV.out], X2⟩
set_option maxHeartbeats 1000000 in
theorem c_impl_FalseShare (R S : Int) (a : Option Addr) (n cap : Nat) (bs : List Bool) (w : World) {v : Option Nat} {b : Bool} (hv : shareR R S bs = (v, b)) (hm : n ≤ maxLen) (h : Reads w a n (bools bs)) :
    Calls Try.prog 43 #[.agg #[.int .i64 R, .int .i64 S, .slice a n cap]] w (RetFE v b w) := by
  have hn := h.bool.1
  subst hn
  have H := Lib.hid h
  have BX := Lib.hid (Box.alloc w #[.int .i64 R, .int .i64 S, .slice a bs.length cap] 27)
  clear h
  cases hc : gridB R S bs.length
  · rw [shareR_no hc] at hv
    simp only [Prod.mk.injEq] at hv
    obtain ⟨rfl, rfl⟩ := hv
    have HC := Lib.hid (fullR_no hc)
    clear hc
    go_enter Try.func43, Try.ntmps43
    go_wp2_with fail
    refine (c_impl_FullOfSieve R S a bs.length cap bs _ HC.out hm (H.out.on (by (repeat (first | assumption | exact Ext.refl _ | (with_reducible refine Ext.stepS ?_ (by first | exact Nat.le_refl _ | (simp; done) | (simp; omega)) _) | (with_reducible refine Ext.stepN ?_ _) | (with_reducible refine Ext.stepD ?_) | (with_reducible refine Ext.stepA ?_ _)))))).mono ?_; rintro e u1 ⟨x, rfl, hx, x1⟩
    have X : Ext w u1 := Ext.trans (by (repeat (first | assumption | exact Ext.refl _ | (with_reducible refine Ext.stepS ?_ (by first | exact Nat.le_refl _ | (simp; done) | (simp; omega)) _) | (with_reducible refine Ext.stepN ?_ _) | (with_reducible refine Ext.stepD ?_) | (with_reducible refine Ext.stepA ?_ _)))) x1
    clear x1 hx
    go_wp2
    go_ret2
    exact RetFE.no _ _ X
  obtain ⟨r, m, rfl, hm1, ok⟩ := grid_ok hc
  rw [shareR_y hc] at hv
  simp only [Prod.mk.injEq] at hv
  obtain ⟨hv, rfl⟩ := hv
  have hr1 := ok.r1
  have hr8 := ok.r8
  have HV := Lib.hid hv
  have HC := Lib.hid (fullR_y hc)
  clear hv hc hm1 ok
  go_enter Try.func43, Try.ntmps43
  go_wp2_with fail
  refine (c_impl_FullOfSieve r S a bs.length cap bs _ HC.out hm (H.out.on (by (repeat (first | assumption | exact Ext.refl _ | (with_reducible refine Ext.stepS ?_ (by first | exact Nat.le_refl _ | (simp; done) | (simp; omega)) _) | (with_reducible refine Ext.stepN ?_ _) | (with_reducible refine Ext.stepD ?_) | (with_reducible refine Ext.stepA ?_ _)))))).mono ?_; rintro e u1 ⟨x, rfl, hx, x1⟩
  have X1 := Lib.hid (show Ext w u1 from Ext.trans (by (repeat (first | assumption | exact Ext.refl _ | (with_reducible refine Ext.stepS ?_ (by first | exact Nat.le_refl _ | (simp; done) | (simp; omega)) _) | (with_reducible refine Ext.stepN ?_ _) | (with_reducible refine Ext.stepD ?_) | (with_reducible refine Ext.stepA ?_ _)))) x1)
  have HX := Lib.hid hx
  obtain ⟨b0, b1, b2⟩ := (BX.out.on x1).three
  clear x1 hx
  go_wp2_with fail
  go_loopw [6, 18] (fun s i wr => ∃ k q y : Nat, k ≤ r - 1 ∧ i = .int .i64 k ∧ s = .float .f32 y ∧ wr = u1.drewN q ∧ fv .f32 y = powV (fullV bs) k) (fun _ i _ => r - (intOf i).toNat)
  case atStart => exact ⟨0, 0, x, Nat.zero_le _, rfl, rfl, rfl, HX.out⟩
  case round =>
    obtain ⟨k, q, y, hk, rfl, rfl, rfl, hy⟩ := hrel
    have HY := Lib.hid hy
    clear hy
    by_cases hlt : k < r - 1
    · have hkl : (k : Int) < (r : Int) - 1 := by omega
      have HS := Lib.hid (show powV (fullV bs) (k + 1) = fop .mul .f32 (powV (fullV bs) k) (fullV bs) from rfl)
      go_wp2
      go_roundw
      case rel => exact ⟨k + 1, _, _, by omega, by go_num, rfl, rfl, by rw [HS.out]; simp only [fv_flR, HY.out, HX.out]⟩
      case measure => simp [intOf]; omega
    · have HKE := Lib.hid (show k = r - 1 by omega)
      have hkl : ¬ (k : Int) < (r : Int) - 1 := by omega
      go_wp2
      go_ret2
      exact ⟨y, rfl, by rw [HY.out, HKE.out, HV.out], by have := X1.out; (repeat (first | assumption | exact Ext.refl _ | (with_reducible refine Ext.stepS ?_ (by first | exact Nat.le_refl _ | (simp; done) | (simp; omega)) _) | (with_reducible refine Ext.stepN ?_ _) | (with_reducible refine Ext.stepD ?_) | (with_reducible refine Ext.stepA ?_ _)))⟩
set_option maxHeartbeats 1000000 in
theorem c_spec_FalseShare (R S : Int) (a : Option Addr) (n cap : Nat) (bs : List Bool) (w : World) {v : Option Nat} {b : Bool} (hv : shareR R S bs = (v, b)) (hm : n ≤ maxLen) (h : Reads w a n (bools bs)) :
    Calls Try.prog 42 #[.agg #[.int .i64 R, .int .i64 S, .slice a n cap]] w (RetFE v b w) := by
  have hn := h.bool.1
  subst hn
  have H := Lib.hid h
  have BX := Lib.hid (Box.alloc w #[.int .i64 R, .int .i64 S, .slice a bs.length cap] 27)
  clear h
  cases hc : gridB R S bs.length
  · rw [shareR_no hc] at hv
    simp only [Prod.mk.injEq] at hv
    obtain ⟨rfl, rfl⟩ := hv
    have HC := Lib.hid hc
    clear hc
    go_enter Try.func42, Try.ntmps42
    go_wp2_with (go_at_call 49; refine (c_spec_l04Is w.heap.size R S a bs.length cap _ HC.out (BX.out.on (by (repeat (first | assumption | exact Ext.refl _ | (with_reducible refine Ext.stepS ?_ (by first | exact Nat.le_refl _ | (simp; done) | (simp; omega)) _) | (with_reducible refine Ext.stepN ?_ _) | (with_reducible refine Ext.stepD ?_) | (with_reducible refine Ext.stepA ?_ _))))) hm).mono ?_; rintro e u1 ⟨rfl, q, rfl⟩)
    go_ret2
    exact RetFE.no _ _ (by (repeat (first | assumption | exact Ext.refl _ | (with_reducible refine Ext.stepS ?_ (by first | exact Nat.le_refl _ | (simp; done) | (simp; omega)) _) | (with_reducible refine Ext.stepN ?_ _) | (with_reducible refine Ext.stepD ?_) | (with_reducible refine Ext.stepA ?_ _))))
  obtain ⟨r, m, rfl, hm1, ok⟩ := grid_ok hc
  rw [shareR_y hc] at hv
  simp only [Prod.mk.injEq] at hv
  obtain ⟨hv, rfl⟩ := hv
  have hr1 := ok.r1
  have hr8 := ok.r8
  have hn1 : 1 ≤ bs.length := by have := ok.n1; omega
  have hn5 : bs.length ≤ 512 := by have := ok.n512; omega
  have HV := Lib.hid hv
  have HC := Lib.hid hc
  clear hv hc hm1 ok
  go_enter Try.func42, Try.ntmps42
  go_wp2_with (go_at_call 49; refine (c_spec_l04Is w.heap.size r S a bs.length cap _ HC.out (BX.out.on (by (repeat (first | assumption | exact Ext.refl _ | (with_reducible refine Ext.stepS ?_ (by first | exact Nat.le_refl _ | (simp; done) | (simp; omega)) _) | (with_reducible refine Ext.stepN ?_ _) | (with_reducible refine Ext.stepD ?_) | (with_reducible refine Ext.stepA ?_ _))))) hm).mono ?_; rintro e u1 ⟨rfl, q, rfl⟩)
  refine (c_spec_l04Full w.heap.size r S a bs.length cap bs _ hn5 hn1 (H.out.on (by (repeat (first | assumption | exact Ext.refl _ | (with_reducible refine Ext.stepS ?_ (by first | exact Nat.le_refl _ | (simp; done) | (simp; omega)) _) | (with_reducible refine Ext.stepN ?_ _) | (with_reducible refine Ext.stepD ?_) | (with_reducible refine Ext.stepA ?_ _))))) (BX.out.on (by (repeat (first | assumption | exact Ext.refl _ | (with_reducible refine Ext.stepS ?_ (by first | exact Nat.le_refl _ | (simp; done) | (simp; omega)) _) | (with_reducible refine Ext.stepN ?_ _) | (with_reducible refine Ext.stepD ?_) | (with_reducible refine Ext.stepA ?_ _)))))).mono ?_; rintro e u1 ⟨x, rfl, hx, x1⟩
  have X1 := Lib.hid (show Ext w u1 from Ext.trans (by (repeat (first | assumption | exact Ext.refl _ | (with_reducible refine Ext.stepS ?_ (by first | exact Nat.le_refl _ | (simp; done) | (simp; omega)) _) | (with_reducible refine Ext.stepN ?_ _) | (with_reducible refine Ext.stepD ?_) | (with_reducible refine Ext.stepA ?_ _)))) x1)
  have HX := Lib.hid hx
  obtain ⟨b0, b1, b2⟩ := ((BX.out.on (by (repeat (first | assumption | exact Ext.refl _ | (with_reducible refine Ext.stepS ?_ (by first | exact Nat.le_refl _ | (simp; done) | (simp; omega)) _) | (with_reducible refine Ext.stepN ?_ _) | (with_reducible refine Ext.stepD ?_) | (with_reducible refine Ext.stepA ?_ _))) : Ext (w.alloc (.cells #[.int .i64 r, .int .i64 S, .slice a bs.length cap] 27)) _)).on x1).three
  clear x1 hx
  go_wp2_with fail
  go_loopw [5, 6] (fun s i wr => ∃ k q y : Nat, k ≤ r - 1 ∧ i = .int .i64 (k + 1 : Nat) ∧ s = .float .f32 y ∧ wr = u1.drewN q ∧ fv .f32 y = powV (fullV bs) k) (fun _ i _ => r - (intOf i).toNat)
  case atStart => exact ⟨0, 0, x, Nat.zero_le _, rfl, rfl, rfl, HX.out⟩
  case round =>
    obtain ⟨k, q, y, hk, rfl, rfl, rfl, hy⟩ := hrel
    have HY := Lib.hid hy
    clear hy
    by_cases hlt : k < r - 1
    · have hkl : (k : Int) + 1 < (r : Int) := by omega
      have HS := Lib.hid (show powV (fullV bs) (k + 1) = fop .mul .f32 (powV (fullV bs) k) (fullV bs) from rfl)
      go_wp2
      go_roundw
      case rel => exact ⟨k + 1, _, _, by omega, by go_num, rfl, rfl, by rw [HS.out]; simp only [fv_flR, HY.out, HX.out]⟩
      case measure => simp [intOf]; omega
    · have HKE := Lib.hid (show k = r - 1 by omega)
      have hkl : ¬ (k : Int) + 1 < (r : Int) := by omega
      go_wp2
      go_ret2
      exact ⟨y, rfl, by rw [HY.out, HKE.out, HV.out], by have := X1.out; (repeat (first | assumption | exact Ext.refl _ | (with_reducible refine Ext.stepS ?_ (by first | exact Nat.le_refl _ | (simp; done) | (simp; omega)) _) | (with_reducible refine Ext.stepN ?_ _) | (with_reducible refine Ext.stepD ?_) | (with_reducible refine Ext.stepA ?_ _)))⟩
end Go.Proofs.Ytfolflkbpdbkcaa
