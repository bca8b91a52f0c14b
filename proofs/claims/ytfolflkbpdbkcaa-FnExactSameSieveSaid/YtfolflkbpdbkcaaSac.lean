/- SameSieve: the other side. -/
import Derived.Test.YtfolflkbpdbkcaaSab
import Derived.BigQuiet
namespace Go.Proofs.Ytfolflkbpdbkcaa
open Go.ChangeShapes Go.WideShapes Go.ChangeAt Go.RowKit
set_option linter.unusedVariables false
set_option maxHeartbeats 2000000 in
theorem c_spec_l04Same (b b' : Nat) (R S : Int) (a : Option Addr) (n cap : Nat) (xs : List Bool) (R' S' : Int) (a' : Option Addr) (n' cap' : Nat) (ys : List Bool) (w : World) {r : Bool} (hr : sameSB R S xs R' S' ys = r) (hm : n ≤ maxLen) (h : Reads w a n (bools xs)) (hm' : n' ≤ maxLen) (h' : Reads w a' n' (bools ys))
    (hb : Box w b 27 #[.int .i64 R, .int .i64 S, .slice a n cap]) (hb' : Box w b' 27 #[.int .i64 R', .int .i64 S', .slice a' n' cap']) :
    Calls Try.prog 54 #[.pointer (some ⟨b, 0, none⟩), .pointer (some ⟨b', 0, none⟩)] w fun e w' => e = .returned (.bool r) ∧ ∃ q, w' = w.drewN q := by
  have hn := h.bool.1
  subst hn
  have hn2 := h'.bool.1
  subst hn2
  have H := Lib.hid h
  have H' := Lib.hid h'
  have HM := Lib.hid hm
  have HM' := Lib.hid hm'
  obtain ⟨b0, b1, b2⟩ := hb.three
  obtain ⟨c0, c1, c2⟩ := hb'.three
  clear h h' hm hm' hb hb'
  by_cases hx : R = R'
  rotate_left
  · have HR := Lib.hid (show r = false by rw [← hr]; exact sameSB_no (gridEq_1 hx))
    have hd : (R == R') = false := by simpa using hx
    have hd2 : decide (R = R') = false := decide_eq_false hx
    clear hr
    go_enter Try.func54, Try.ntmps54
    go_wp2_with fail
    go_quiet (fail)
    go_wp2
    go_ret
    exact ⟨(by rw [HR.out]; first | rfl | simpa using (by assumption)), _, rfl⟩
  subst hx
  by_cases hx : S = S'
  rotate_left
  · have HR := Lib.hid (show r = false by rw [← hr]; exact sameSB_no (gridEq_2 hx))
    have hd : (S == S') = false := by simpa using hx
    have hd2 : decide (S = S') = false := decide_eq_false hx
    clear hr
    go_enter Try.func54, Try.ntmps54
    go_wp2_with fail
    go_quiet (fail)
    go_wp2
    go_ret
    exact ⟨(by rw [HR.out]; first | rfl | simpa using (by assumption)), _, rfl⟩
  subst hx
  have HR := Lib.hid (show sameLB xs ys = r by
    by_cases hl : xs.length = ys.length
    · rw [← hr]; exact (sameSB_y (by rw [hl]; exact gridEq_y _ _ _)).symm
    · rw [← hr, sameSB_no (gridEq_3 (by omega))]; exact sameLB_len hl)
  clear hr
  go_enter Try.func54, Try.ntmps54
  go_wp2_with fail
  go_quiet ((go_at_call 80; exact Calls.quiet_of (c_spec_l04SameBits _ _ _ _ _ _ xs ys _ HR.out HM.out HM'.out (H.out.on (Ext.drewN _ _)) (H'.out.on (Ext.drewN _ _)))))
  go_wp2
  go_ret
  exact ⟨rfl, _, rfl⟩
theorem c_spec_SameSieve (R S : Int) (a : Option Addr) (n cap : Nat) (xs : List Bool) (R' S' : Int) (b : Option Addr) (n2 cap2 : Nat) (ys : List Bool) (w : World) {r : Bool} (hr : sameSB R S xs R' S' ys = r) (hm : n ≤ maxLen) (hc : n ≤ cap) (h : Reads w a n (bools xs)) (hm2 : n2 ≤ maxLen) (hc2 : n2 ≤ cap2) (h2 : Reads w b n2 (bools ys)) :
    Calls Try.prog 20 #[.agg #[.int .i64 R, .int .i64 S, .slice a n cap], .agg #[.int .i64 R', .int .i64 S', .slice b n2 cap2]] w fun e w' => e = .returned (.bool r) ∧ Ext w w' := by
  have H := Lib.hid h
  have H2 := Lib.hid h2
  have BA := Lib.hid ((Box.alloc w #[.int .i64 R, .int .i64 S, .slice a n cap] 27).past (.cells #[.int .i64 R', .int .i64 S', .slice b n2 cap2] 27))
  have BB := Lib.hid (Box.alloc_at (w.alloc (.cells #[.int .i64 R, .int .i64 S, .slice a n cap] 27)) #[.int .i64 R', .int .i64 S', .slice b n2 cap2] 27 (b := w.heap.size + 1) (by simp))
  have HR := Lib.hid hr
  clear h h2 hr
  go_enter Try.func20, Try.ntmps20
  go_wp2_with (go_at_call 54; refine (c_spec_l04Same w.heap.size (w.heap.size + 1) R S a n cap xs R' S' b n2 cap2 ys _ HR.out hm (H.out.on (by (repeat (first | assumption | exact Ext.refl _ | (with_reducible refine Ext.stepS ?_ (by first | exact Nat.le_refl _ | (simp; done) | (simp; omega)) _) | (with_reducible refine Ext.stepN ?_ _) | (with_reducible refine Ext.stepD ?_) | (with_reducible refine Ext.stepA ?_ _))))) hm2 (H2.out.on (by (repeat (first | assumption | exact Ext.refl _ | (with_reducible refine Ext.stepS ?_ (by first | exact Nat.le_refl _ | (simp; done) | (simp; omega)) _) | (with_reducible refine Ext.stepN ?_ _) | (with_reducible refine Ext.stepD ?_) | (with_reducible refine Ext.stepA ?_ _))))) BA.out BB.out).mono ?_; rintro e u1 ⟨rfl, q1, rfl⟩)
  go_ret
  exact ⟨rfl, by (repeat (first | assumption | exact Ext.refl _ | (with_reducible refine Ext.stepS ?_ (by first | exact Nat.le_refl _ | (simp; done) | (simp; omega)) _) | (with_reducible refine Ext.stepN ?_ _) | (with_reducible refine Ext.stepD ?_) | (with_reducible refine Ext.stepA ?_ _)))⟩
end Go.Proofs.Ytfolflkbpdbkcaa
