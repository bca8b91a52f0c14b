/- two cells of one shape, on the text's side. -/
import Derived.Test.YtfolflkbpdbkcacCmh
import Derived.Deep.QuietTactic
import Derived.BigQuiet
namespace Go.Proofs.Ytfolflkbpdbkcac
open Go.ChangeShapes Go.WideShapes Go.ChangeAt Go.RowKit
set_option linter.unusedVariables false
theorem Box.drew' {w : World} {b : Nat} {t : TypeId} {vs : Array Value} (h : Box w b t vs) (n : Nat) : Box (w.drewN n) b t vs := h.on (Ext.drewN w n)
set_option maxRecDepth 100000 in
set_option maxHeartbeats 2000000 in
theorem c_spec_l03Like (b b' : Nat) (W D S : Int) (a : Option Addr) (n cap : Nat) (zs : List Int) (W' D' S' : Int) (a' : Option Addr) (n' cap' : Nat) (ys : List Int) (w : World) {r : Bool} (hr : mergeB W D S zs W' D' S' ys = r) (hm : n ≤ maxLen) (h : Reads w a n (ints zs)) (hm' : n' ≤ maxLen) (h' : Reads w a' n' (ints ys))
    (hb : Box w b 54 #[.int .i64 W, .int .i64 D, .int .i64 S, .slice a n cap]) (hb' : Box w b' 54 #[.int .i64 W', .int .i64 D', .int .i64 S', .slice a' n' cap']) :
    Calls Try.prog 95 #[.pointer (some ⟨b, 0, none⟩), .pointer (some ⟨b', 0, none⟩)] w fun e w' => e = .returned (.bool r) ∧ ∃ q, w' = w.drewN q := by
  have H := Lib.hid h
  have H' := Lib.hid h'
  have HM := Lib.hid hm
  have HM' := Lib.hid hm'
  have HBX := Lib.hid hb
  have HBY := Lib.hid hb'
  obtain ⟨b0, b1, b2, b3⟩ := hb.four
  obtain ⟨c0, c1, c2, c3⟩ := hb'.four
  clear h h' hm hm' hb hb'
  cases ha : cellsB W D S zs
  · have HR := Lib.hid (show r = false by rw [← hr]; unfold mergeB; rw [ha]; rfl)
    have HA := Lib.hid ha
    clear hr ha
    go_enter Try.func95, Try.ntmps95
    go_wp2_with fail
    go_quiet ((go_at_call_of 89 (Value.pointer (some ⟨b, 0, none⟩)); exact Calls.quiet_of (c_spec_l03Is b W D S a n cap zs _ HA.out (HBX.out.drew' _) HM.out (H.out.on (by (repeat (first | assumption | exact Ext.refl _ | (with_reducible refine Ext.stepS ?_ (by first | exact Nat.le_refl _ | (simp; done) | (simp; omega)) _) | (with_reducible refine Ext.stepN ?_ _) | (with_reducible refine Ext.stepD ?_) | (with_reducible refine Ext.stepA ?_ _))))))))
    go_wp2
    go_ret
    exact ⟨retB HR.out.symm, _, rfl⟩
  · cases hb : cellsB W' D' S' ys
    · have HR := Lib.hid (show r = false by rw [← hr]; unfold mergeB; rw [ha, hb]; rfl)
      have HA := Lib.hid ha
      have HB := Lib.hid hb
      clear hr ha hb
      go_enter Try.func95, Try.ntmps95
      go_wp2_with fail
      go_quiet ((first | (go_at_call_of 89 (Value.pointer (some ⟨b, 0, none⟩)); exact Calls.quiet_of (c_spec_l03Is b W D S a n cap zs _ HA.out (HBX.out.drew' _) HM.out (H.out.on (by (repeat (first | assumption | exact Ext.refl _ | (with_reducible refine Ext.stepS ?_ (by first | exact Nat.le_refl _ | (simp; done) | (simp; omega)) _) | (with_reducible refine Ext.stepN ?_ _) | (with_reducible refine Ext.stepD ?_) | (with_reducible refine Ext.stepA ?_ _))))))) | (go_at_call_of 89 (Value.pointer (some ⟨b', 0, none⟩)); exact Calls.quiet_of (c_spec_l03Is b' _ _ _ a' n' cap' ys _ HB.out (HBY.out.drew' _) HM'.out (H'.out.on (by (repeat (first | assumption | exact Ext.refl _ | (with_reducible refine Ext.stepS ?_ (by first | exact Nat.le_refl _ | (simp; done) | (simp; omega)) _) | (with_reducible refine Ext.stepN ?_ _) | (with_reducible refine Ext.stepD ?_) | (with_reducible refine Ext.stepA ?_ _)))))))))
      go_wp2
      go_ret
      exact ⟨retB HR.out.symm, _, rfl⟩
    · have HR0 := Lib.hid (show shapeB W D S W' D' S' = r by rw [← hr]; unfold mergeB; rw [ha, hb]; rfl)
      have HA := Lib.hid ha
      have HB := Lib.hid hb
      clear hr ha hb
      by_cases h1 : W = W'
      · subst h1
        by_cases h2 : D = D'
        · subst h2
          by_cases h3 : S = S'
          · subst h3
            have HR := Lib.hid (show r = true by rw [← HR0.out]; simp [shapeB])
            clear HR0
            go_enter Try.func95, Try.ntmps95
            go_wp2_with fail
            go_quiet ((first | (go_at_call_of 89 (Value.pointer (some ⟨b, 0, none⟩)); exact Calls.quiet_of (c_spec_l03Is b W D S a n cap zs _ HA.out (HBX.out.drew' _) HM.out (H.out.on (by (repeat (first | assumption | exact Ext.refl _ | (with_reducible refine Ext.stepS ?_ (by first | exact Nat.le_refl _ | (simp; done) | (simp; omega)) _) | (with_reducible refine Ext.stepN ?_ _) | (with_reducible refine Ext.stepD ?_) | (with_reducible refine Ext.stepA ?_ _))))))) | (go_at_call_of 89 (Value.pointer (some ⟨b', 0, none⟩)); exact Calls.quiet_of (c_spec_l03Is b' _ _ _ a' n' cap' ys _ HB.out (HBY.out.drew' _) HM'.out (H'.out.on (by (repeat (first | assumption | exact Ext.refl _ | (with_reducible refine Ext.stepS ?_ (by first | exact Nat.le_refl _ | (simp; done) | (simp; omega)) _) | (with_reducible refine Ext.stepN ?_ _) | (with_reducible refine Ext.stepD ?_) | (with_reducible refine Ext.stepA ?_ _)))))))))
            go_wp2
            go_ret
            exact ⟨retB HR.out.symm, _, rfl⟩
          · have HR := Lib.hid (show r = false by rw [← HR0.out]; simp [shapeB, h3])
            have hd : (S == S') = false := by simpa using h3
            have hd2 : decide (S = S') = false := decide_eq_false h3
            clear HR0
            go_enter Try.func95, Try.ntmps95
            go_wp2_with fail
            go_quiet ((first | (go_at_call_of 89 (Value.pointer (some ⟨b, 0, none⟩)); exact Calls.quiet_of (c_spec_l03Is b W D S a n cap zs _ HA.out (HBX.out.drew' _) HM.out (H.out.on (by (repeat (first | assumption | exact Ext.refl _ | (with_reducible refine Ext.stepS ?_ (by first | exact Nat.le_refl _ | (simp; done) | (simp; omega)) _) | (with_reducible refine Ext.stepN ?_ _) | (with_reducible refine Ext.stepD ?_) | (with_reducible refine Ext.stepA ?_ _))))))) | (go_at_call_of 89 (Value.pointer (some ⟨b', 0, none⟩)); exact Calls.quiet_of (c_spec_l03Is b' _ _ _ a' n' cap' ys _ HB.out (HBY.out.drew' _) HM'.out (H'.out.on (by (repeat (first | assumption | exact Ext.refl _ | (with_reducible refine Ext.stepS ?_ (by first | exact Nat.le_refl _ | (simp; done) | (simp; omega)) _) | (with_reducible refine Ext.stepN ?_ _) | (with_reducible refine Ext.stepD ?_) | (with_reducible refine Ext.stepA ?_ _)))))))))
            go_wp2
            go_ret
            exact ⟨(by rw [HR.out]; first | rfl | simpa using (by assumption)), _, rfl⟩
        · have HR := Lib.hid (show r = false by rw [← HR0.out]; simp [shapeB, h2])
          have hd : (D == D') = false := by simpa using h2
          have hd2 : decide (D = D') = false := decide_eq_false h2
          clear HR0
          go_enter Try.func95, Try.ntmps95
          go_wp2_with fail
          go_quiet ((first | (go_at_call_of 89 (Value.pointer (some ⟨b, 0, none⟩)); exact Calls.quiet_of (c_spec_l03Is b W D S a n cap zs _ HA.out (HBX.out.drew' _) HM.out (H.out.on (by (repeat (first | assumption | exact Ext.refl _ | (with_reducible refine Ext.stepS ?_ (by first | exact Nat.le_refl _ | (simp; done) | (simp; omega)) _) | (with_reducible refine Ext.stepN ?_ _) | (with_reducible refine Ext.stepD ?_) | (with_reducible refine Ext.stepA ?_ _))))))) | (go_at_call_of 89 (Value.pointer (some ⟨b', 0, none⟩)); exact Calls.quiet_of (c_spec_l03Is b' _ _ _ a' n' cap' ys _ HB.out (HBY.out.drew' _) HM'.out (H'.out.on (by (repeat (first | assumption | exact Ext.refl _ | (with_reducible refine Ext.stepS ?_ (by first | exact Nat.le_refl _ | (simp; done) | (simp; omega)) _) | (with_reducible refine Ext.stepN ?_ _) | (with_reducible refine Ext.stepD ?_) | (with_reducible refine Ext.stepA ?_ _)))))))))
          go_wp2
          go_ret
          exact ⟨(by rw [HR.out]; first | rfl | simpa using (by assumption)), _, rfl⟩
      · have HR := Lib.hid (show r = false by rw [← HR0.out]; simp [shapeB, h1])
        have hd : (W == W') = false := by simpa using h1
        have hd2 : decide (W = W') = false := decide_eq_false h1
        clear HR0
        go_enter Try.func95, Try.ntmps95
        go_wp2_with fail
        go_quiet ((first | (go_at_call_of 89 (Value.pointer (some ⟨b, 0, none⟩)); exact Calls.quiet_of (c_spec_l03Is b W D S a n cap zs _ HA.out (HBX.out.drew' _) HM.out (H.out.on (by (repeat (first | assumption | exact Ext.refl _ | (with_reducible refine Ext.stepS ?_ (by first | exact Nat.le_refl _ | (simp; done) | (simp; omega)) _) | (with_reducible refine Ext.stepN ?_ _) | (with_reducible refine Ext.stepD ?_) | (with_reducible refine Ext.stepA ?_ _))))))) | (go_at_call_of 89 (Value.pointer (some ⟨b', 0, none⟩)); exact Calls.quiet_of (c_spec_l03Is b' _ _ _ a' n' cap' ys _ HB.out (HBY.out.drew' _) HM'.out (H'.out.on (by (repeat (first | assumption | exact Ext.refl _ | (with_reducible refine Ext.stepS ?_ (by first | exact Nat.le_refl _ | (simp; done) | (simp; omega)) _) | (with_reducible refine Ext.stepN ?_ _) | (with_reducible refine Ext.stepD ?_) | (with_reducible refine Ext.stepA ?_ _)))))))))
        go_wp2
        go_ret
        exact ⟨(by rw [HR.out]; first | rfl | simpa using (by assumption)), _, rfl⟩
end Go.Proofs.Ytfolflkbpdbkcac
