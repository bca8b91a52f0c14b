/- JoinSieves, MeetSieves: the program's side; two sieves alike. -/
import Derived.Test.YtfolflkbpdbkcaaPak
import Derived.Deep.QuietTactic
import Derived.BigQuiet
namespace Go.Proofs.Ytfolflkbpdbkcaa
open Go.ChangeShapes Go.WideShapes Go.ChangeAt Go.RowKit
set_option linter.unusedVariables false
theorem Box.drew' {w : World} {b : Nat} {t : TypeId} {vs : Array Value} (h : Box w b t vs) (n : Nat) : Box (w.drewN n) b t vs := h
theorem c_impl_JoinSieves (R S : Int) (a : Option Addr) (n cap : Nat) (xs : List Bool) (R' S' : Int) (b : Option Addr) (n2 cap2 : Nat) (ys : List Bool) (w : World) {V : SV} {v : Bool} (hv : pairR (fun x y => x || y) R S xs R' S' ys = (V, v)) (hm : n ≤ maxLen) (h : Reads w a n (bools xs)) (hm2 : n2 ≤ maxLen) (h2 : Reads w b n2 (bools ys)) :
    Calls Try.prog 36 #[.agg #[.int .i64 R, .int .i64 S, .slice a n cap], .agg #[.int .i64 R', .int .i64 S', .slice b n2 cap2]] w (RetKVB 4 V v w) := by
  have H := Lib.hid h
  have H2 := Lib.hid h2
  have HV := Lib.hid hv
  clear h h2 hv
  go_enter Try.func36, Try.ntmps36
  go_wp2_with fail
  refine (c_pair_join R S a n cap xs R' S' b n2 cap2 ys _ HV.out hm (H.out.on (by (repeat (first | assumption | exact Ext.refl _ | (with_reducible refine Ext.stepS ?_ (by first | exact Nat.le_refl _ | (simp; done) | (simp; omega)) _) | (with_reducible refine Ext.stepN ?_ _) | (with_reducible refine Ext.stepD ?_) | (with_reducible refine Ext.stepA ?_ _))))) hm2 (H2.out.on (by (repeat (first | assumption | exact Ext.refl _ | (with_reducible refine Ext.stepS ?_ (by first | exact Nat.le_refl _ | (simp; done) | (simp; omega)) _) | (with_reducible refine Ext.stepN ?_ _) | (with_reducible refine Ext.stepD ?_) | (with_reducible refine Ext.stepA ?_ _)))))).mono ?_; rintro e u1 ⟨ra, rc, rfl, o', x'⟩
  have BZ1 := Lib.hid ((Box.alloc_at ((w.alloc (.cells #[.int .i64 R, .int .i64 S, .slice a n cap] 27)).alloc (.cells #[.int .i64 R', .int .i64 S', .slice b n2 cap2] 27)) #[.int .i64 0, .int .i64 0, .slice none 0 0] 27 (b := w.heap.size + 2) (by simp)).on x')
  have X1 : Ext w u1 := Ext.trans (by (repeat (first | assumption | exact Ext.refl _ | (with_reducible refine Ext.stepS ?_ (by first | exact Nat.le_refl _ | (simp; done) | (simp; omega)) _) | (with_reducible refine Ext.stepN ?_ _) | (with_reducible refine Ext.stepD ?_) | (with_reducible refine Ext.stepA ?_ _)))) x'
  have HO := Lib.hid o'
  have HSZ := Lib.hid (show w.heap.size + 3 ≤ u1.heap.size from Nat.le_trans (by first | omega | (simp; done) | (simp; omega)) x'.size)
  obtain ⟨z0, z1, z2⟩ := BZ1.out.three
  obtain ⟨f0, f1, f2, f3⟩ := BZ1.out.free
  clear o' x'
  go_wp2
  refine bodyPost_ret (v := .tuple #[.agg #[.int .i64 V.R, .int .i64 V.S, .slice ra V.zs.length rc], .bool v]) (by simp [results, Try.results36, go_sem, z0, z1, z2]) rfl ⟨_, _, rfl, ?_, ?_⟩
  · refine own_touch HO.out (lo' := w.heap.size + 2) (hi' := w.heap.size + 3) ?_ (by first | omega | (simp; done) | (simp; omega)) (by first | omega | (simp; done) | (simp; omega)) (Nat.le_refl _)
    (repeat (first | assumption | exact Touch.refl _ _ _ | (with_reducible refine Touch.stepS ?_ (by first | exact Nat.le_refl _ | (simp; done) | (simp; omega)) (by first | (simp; done) | (simp; omega)) _) | (with_reducible refine Touch.stepN ?_ _) | (with_reducible refine Touch.stepA ?_ _)))
  · (repeat (first | assumption | exact Ext.refl _ | (with_reducible refine Ext.stepS ?_ (by first | exact Nat.le_refl _ | (simp; done) | (simp; omega)) _) | (with_reducible refine Ext.stepN ?_ _) | (with_reducible refine Ext.stepD ?_) | (with_reducible refine Ext.stepA ?_ _)))
theorem c_impl_MeetSieves (R S : Int) (a : Option Addr) (n cap : Nat) (xs : List Bool) (R' S' : Int) (b : Option Addr) (n2 cap2 : Nat) (ys : List Bool) (w : World) {V : SV} {v : Bool} (hv : pairR (fun x y => x && y) R S xs R' S' ys = (V, v)) (hm : n ≤ maxLen) (h : Reads w a n (bools xs)) (hm2 : n2 ≤ maxLen) (h2 : Reads w b n2 (bools ys)) :
    Calls Try.prog 38 #[.agg #[.int .i64 R, .int .i64 S, .slice a n cap], .agg #[.int .i64 R', .int .i64 S', .slice b n2 cap2]] w (RetKVB 4 V v w) := by
  have H := Lib.hid h
  have H2 := Lib.hid h2
  have HV := Lib.hid hv
  clear h h2 hv
  go_enter Try.func38, Try.ntmps38
  go_wp2_with fail
  refine (c_pair_meet R S a n cap xs R' S' b n2 cap2 ys _ HV.out hm (H.out.on (by (repeat (first | assumption | exact Ext.refl _ | (with_reducible refine Ext.stepS ?_ (by first | exact Nat.le_refl _ | (simp; done) | (simp; omega)) _) | (with_reducible refine Ext.stepN ?_ _) | (with_reducible refine Ext.stepD ?_) | (with_reducible refine Ext.stepA ?_ _))))) hm2 (H2.out.on (by (repeat (first | assumption | exact Ext.refl _ | (with_reducible refine Ext.stepS ?_ (by first | exact Nat.le_refl _ | (simp; done) | (simp; omega)) _) | (with_reducible refine Ext.stepN ?_ _) | (with_reducible refine Ext.stepD ?_) | (with_reducible refine Ext.stepA ?_ _)))))).mono ?_; rintro e u1 ⟨ra, rc, rfl, o', x'⟩
  have BZ1 := Lib.hid ((Box.alloc_at ((w.alloc (.cells #[.int .i64 R, .int .i64 S, .slice a n cap] 27)).alloc (.cells #[.int .i64 R', .int .i64 S', .slice b n2 cap2] 27)) #[.int .i64 0, .int .i64 0, .slice none 0 0] 27 (b := w.heap.size + 2) (by simp)).on x')
  have X1 : Ext w u1 := Ext.trans (by (repeat (first | assumption | exact Ext.refl _ | (with_reducible refine Ext.stepS ?_ (by first | exact Nat.le_refl _ | (simp; done) | (simp; omega)) _) | (with_reducible refine Ext.stepN ?_ _) | (with_reducible refine Ext.stepD ?_) | (with_reducible refine Ext.stepA ?_ _)))) x'
  have HO := Lib.hid o'
  have HSZ := Lib.hid (show w.heap.size + 3 ≤ u1.heap.size from Nat.le_trans (by first | omega | (simp; done) | (simp; omega)) x'.size)
  obtain ⟨z0, z1, z2⟩ := BZ1.out.three
  obtain ⟨f0, f1, f2, f3⟩ := BZ1.out.free
  clear o' x'
  go_wp2
  refine bodyPost_ret (v := .tuple #[.agg #[.int .i64 V.R, .int .i64 V.S, .slice ra V.zs.length rc], .bool v]) (by simp [results, Try.results38, go_sem, z0, z1, z2]) rfl ⟨_, _, rfl, ?_, ?_⟩
  · refine own_touch HO.out (lo' := w.heap.size + 2) (hi' := w.heap.size + 3) ?_ (by first | omega | (simp; done) | (simp; omega)) (by first | omega | (simp; done) | (simp; omega)) (Nat.le_refl _)
    (repeat (first | assumption | exact Touch.refl _ _ _ | (with_reducible refine Touch.stepS ?_ (by first | exact Nat.le_refl _ | (simp; done) | (simp; omega)) (by first | (simp; done) | (simp; omega)) _) | (with_reducible refine Touch.stepN ?_ _) | (with_reducible refine Touch.stepA ?_ _)))
  · (repeat (first | assumption | exact Ext.refl _ | (with_reducible refine Ext.stepS ?_ (by first | exact Nat.le_refl _ | (simp; done) | (simp; omega)) _) | (with_reducible refine Ext.stepN ?_ _) | (with_reducible refine Ext.stepD ?_) | (with_reducible refine Ext.stepA ?_ _)))
set_option maxRecDepth 100000 in
set_option maxHeartbeats 2000000 in
theorem c_spec_l04Alike (b b' : Nat) (R S : Int) (a : Option Addr) (n cap : Nat) (xs : List Bool) (R' S' : Int) (a' : Option Addr) (n' cap' : Nat) (ys : List Bool) (w : World) {r : Bool} (hr : pairB R S xs R' S' ys = r) (hm : n ≤ maxLen) (hn : xs.length = n) (hm' : n' ≤ maxLen) (hn' : ys.length = n')
    (hb : Box w b 27 #[.int .i64 R, .int .i64 S, .slice a n cap]) (hb' : Box w b' 27 #[.int .i64 R', .int .i64 S', .slice a' n' cap']) :
    Calls Try.prog 68 #[.pointer (some ⟨b, 0, none⟩), .pointer (some ⟨b', 0, none⟩)] w fun e w' => e = .returned (.bool r) ∧ ∃ q, w' = w.drewN q := by
  subst hn
  subst hn'
  have HM := Lib.hid hm
  have HM' := Lib.hid hm'
  have HBX := Lib.hid hb
  have HBY := Lib.hid hb'
  obtain ⟨b0, b1, b2⟩ := hb.three
  obtain ⟨c0, c1, c2⟩ := hb'.three
  clear hm hm' hb hb'
  cases ha : gridB R S xs.length
  · have HR := Lib.hid (show r = false by rw [← hr]; exact pairB_1 ha)
    have HA := Lib.hid ha
    clear hr ha
    go_enter Try.func68, Try.ntmps68
    go_wp2_with fail
    go_quiet ((go_at_call_of 49 (Value.pointer (some ⟨b, 0, none⟩)); exact Calls.quiet_of (c_spec_l04Is b R S a xs.length cap _ HA.out (HBX.out.drew' _) HM.out)))
    go_wp2
    go_ret
    exact ⟨retB HR.out.symm, _, rfl⟩
  have HA := Lib.hid ha
  cases hb : gridB R' S' ys.length
  · have HR := Lib.hid (show r = false by rw [← hr]; exact pairB_2 hb)
    have HB := Lib.hid hb
    clear hr ha hb
    go_enter Try.func68, Try.ntmps68
    go_wp2_with fail
    go_quiet ((first | (go_at_call_of 49 (Value.pointer (some ⟨b, 0, none⟩)); exact Calls.quiet_of (c_spec_l04Is b R S a xs.length cap _ HA.out (HBX.out.drew' _) HM.out)) | (go_at_call_of 49 (Value.pointer (some ⟨b', 0, none⟩)); exact Calls.quiet_of (c_spec_l04Is b' _ _ a' ys.length cap' _ HB.out (HBY.out.drew' _) HM'.out))))
    go_wp2
    go_ret
    exact ⟨retB HR.out.symm, _, rfl⟩
  have HB := Lib.hid hb
  clear hb
  by_cases hx : R = R'
  rotate_left
  · have HR := Lib.hid (show r = false by rw [← hr]; exact pairB_3 (gridEq_1 hx))
    have hd : (R == R') = false := by simpa using hx
    have hd2 : decide (R = R') = false := decide_eq_false hx
    clear hr
    clear ha
    go_enter Try.func68, Try.ntmps68
    go_wp2_with fail
    go_quiet ((first | (go_at_call_of 49 (Value.pointer (some ⟨b, 0, none⟩)); exact Calls.quiet_of (c_spec_l04Is b R S a xs.length cap _ HA.out (HBX.out.drew' _) HM.out)) | (go_at_call_of 49 (Value.pointer (some ⟨b', 0, none⟩)); exact Calls.quiet_of (c_spec_l04Is b' _ _ a' ys.length cap' _ HB.out (HBY.out.drew' _) HM'.out))))
    go_wp2
    go_ret
    exact ⟨(by rw [HR.out]; first | rfl | simpa using (by assumption)), _, rfl⟩
  subst hx
  by_cases hx : S = S'
  rotate_left
  · have HR := Lib.hid (show r = false by rw [← hr]; exact pairB_3 (gridEq_2 hx))
    have hd : (S == S') = false := by simpa using hx
    have hd2 : decide (S = S') = false := decide_eq_false hx
    clear hr
    clear ha
    go_enter Try.func68, Try.ntmps68
    go_wp2_with fail
    go_quiet ((first | (go_at_call_of 49 (Value.pointer (some ⟨b, 0, none⟩)); exact Calls.quiet_of (c_spec_l04Is b R S a xs.length cap _ HA.out (HBX.out.drew' _) HM.out)) | (go_at_call_of 49 (Value.pointer (some ⟨b', 0, none⟩)); exact Calls.quiet_of (c_spec_l04Is b' _ _ a' ys.length cap' _ HB.out (HBY.out.drew' _) HM'.out))))
    go_wp2
    go_ret
    exact ⟨(by rw [HR.out]; first | rfl | simpa using (by assumption)), _, rfl⟩
  subst hx
  by_cases hx : (xs.length : Int) = (ys.length : Int)
  rotate_left
  · have HR := Lib.hid (show r = false by rw [← hr]; exact pairB_3 (gridEq_3 hx))
    have hd : ((xs.length : Int) == (ys.length : Int)) = false := by simpa using hx
    have hd2 : decide ((xs.length : Int) = (ys.length : Int)) = false := decide_eq_false hx
    clear hr
    clear ha
    go_enter Try.func68, Try.ntmps68
    go_wp2_with fail
    go_quiet ((first | (go_at_call_of 49 (Value.pointer (some ⟨b, 0, none⟩)); exact Calls.quiet_of (c_spec_l04Is b R S a xs.length cap _ HA.out (HBX.out.drew' _) HM.out)) | (go_at_call_of 49 (Value.pointer (some ⟨b', 0, none⟩)); exact Calls.quiet_of (c_spec_l04Is b' _ _ a' ys.length cap' _ HB.out (HBY.out.drew' _) HM'.out))))
    go_wp2
    go_ret
    exact ⟨(by rw [HR.out]; first | rfl | simpa using (by assumption)), _, rfl⟩
  have HR := Lib.hid (show r = true by rw [← hr]; unfold pairB; rw [ha, hx, gridEq_y]; rfl)
  have hd : ((xs.length : Int) == (ys.length : Int)) = true := by simpa using hx
  have hd2 : decide ((xs.length : Int) = (ys.length : Int)) = true := decide_eq_true hx
  clear hr ha
  go_enter Try.func68, Try.ntmps68
  go_wp2_with fail
  go_quiet ((first | (go_at_call_of 49 (Value.pointer (some ⟨b, 0, none⟩)); exact Calls.quiet_of (c_spec_l04Is b R S a xs.length cap _ HA.out (HBX.out.drew' _) HM.out)) | (go_at_call_of 49 (Value.pointer (some ⟨b', 0, none⟩)); exact Calls.quiet_of (c_spec_l04Is b' _ _ a' ys.length cap' _ HB.out (HBY.out.drew' _) HM'.out))))
  go_wp2
  go_ret
  exact ⟨(by rw [HR.out]; first | rfl | simpa using (by assumption)), _, rfl⟩
end Go.Proofs.Ytfolflkbpdbkcaa
