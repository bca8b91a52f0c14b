/- SameWindow: both sides. -/
import Derived.Test.YtmlnnnagbkknhaaWna
import Derived.Test.YtmlnnnagbkknhaaWnb
namespace Go.Proofs.Ytmlnnnagbkknhaa
open Go.ChangeShapes Go.WideShapes Go.ChangeAt Go.RowKit
set_option linter.unusedVariables false
def sameWB (L P : Int) (ts zs : List Int) (L' P' : Int) (ts' zs' : List Int) : Bool := decide (L = L') && (decide (P = P') && (sameL ts ts' && sameL zs zs'))

set_option maxHeartbeats 4000000 in
theorem c_impl_SameWindow (L P : Int) (a1 : Option Addr) (cap1 : Nat) (ts : List Int) (a2 : Option Addr) (cap2 : Nat) (zs : List Int) (L' P' : Int) (a1' : Option Addr) (cap1' : Nat) (ts' : List Int) (a2' : Option Addr) (cap2' : Nat) (zs' : List Int) (w : World) {r : Bool} (hr : sameWB L P ts zs L' P' ts' zs' = r)
    (hl : ts.length + zs.length ≤ 1048576) (h : Reads2 w a1 ts.length (ints ts) a2 zs.length (ints zs)) (hl' : ts'.length + zs'.length ≤ 1048576) (h' : Reads2 w a1' ts'.length (ints ts') a2' zs'.length (ints zs')) :
    Calls Try.prog 19 #[.agg #[.int .i64 L, .int .i64 P, .slice a1 ts.length cap1, .slice a2 zs.length cap2], .agg #[.int .i64 L', .int .i64 P', .slice a1' ts'.length cap1', .slice a2' zs'.length cap2']] w fun e w' => e = .returned (.bool r) ∧ Ext w w' := by
  have H := Lib.hid h
  have H' := Lib.hid h'
  have M1 := Lib.hid (show ts.length ≤ maxLen by unfold maxLen; omega)
  have M2 := Lib.hid (show zs.length ≤ maxLen by unfold maxLen; omega)
  have M1' := Lib.hid (show ts'.length ≤ maxLen by unfold maxLen; omega)
  have M2' := Lib.hid (show zs'.length ≤ maxLen by unfold maxLen; omega)
  have BX := Lib.hid ((Box.alloc w #[.int .i64 L, .int .i64 P, .slice a1 ts.length cap1, .slice a2 zs.length cap2] 27).past (.cells #[.int .i64 L', .int .i64 P', .slice a1' ts'.length cap1', .slice a2' zs'.length cap2'] 27))
  have BY := Lib.hid (Box.alloc_at (w.alloc (.cells #[.int .i64 L, .int .i64 P, .slice a1 ts.length cap1, .slice a2 zs.length cap2] 27)) #[.int .i64 L', .int .i64 P', .slice a1' ts'.length cap1', .slice a2' zs'.length cap2'] 27 (b := w.heap.size + 1) (by simp))
  have X0 := Lib.hid (((Ext.refl w).stepA (.cells #[.int .i64 L, .int .i64 P, .slice a1 ts.length cap1, .slice a2 zs.length cap2] 27)).stepA (.cells #[.int .i64 L', .int .i64 P', .slice a1' ts'.length cap1', .slice a2' zs'.length cap2'] 27))
  obtain ⟨b0, b1, b2, b3⟩ := BX.out.four
  obtain ⟨d0, d1, d2, d3⟩ := BY.out.four
  clear h h' hl hl'
  by_cases hL : L = L'
  rotate_left
  · have HT := Lib.hid (show r = false by rw [← hr]; unfold sameWB; rw [decide_eq_false hL]; rfl)
    have e1 : (L == L') = false := by simpa using hL
    clear hr
    go_enter Try.func19, Try.ntmps19
    go_wp2
    go_ret
    exact ⟨retB (by rw [HT.out]), X0.out⟩
  subst hL
  have eL : (L == L) = true := by simp
  by_cases hP : P = P'
  rotate_left
  · have HT := Lib.hid (show r = false by rw [← hr]; unfold sameWB; rw [decide_eq_false hP]; simp)
    have e1 : (P == P') = false := by simpa using hP
    clear hr
    go_enter Try.func19, Try.ntmps19
    go_wp2
    first | (go_ret; exact ⟨retB (by rw [HT.out]), X0.out⟩) | (go_quiet (fail); go_wp2; go_ret; exact ⟨retB (by rw [HT.out]), by have := X0.out; (repeat (first | assumption | exact Ext.refl _ | (with_reducible refine Ext.stepS ?_ (by first | exact Nat.le_refl _ | (simp; done) | (simp; omega)) _) | (with_reducible refine Ext.stepN ?_ _) | (with_reducible refine Ext.stepD ?_) | (with_reducible refine Ext.stepA ?_ _)))⟩)
  subst hP
  have eP : (P == P) = true := by simp
  cases h1 : sameL ts ts'
  · have HT := Lib.hid (show r = false by rw [← hr]; unfold sameWB; rw [h1]; simp)
    have H1 := Lib.hid h1
    clear h1 hr
    go_enter Try.func19, Try.ntmps19
    go_wp2_with fail
    clear b0 b1 b2 b3 d0 d1 d2 d3
    refine (c_Equal _ _ _ _ _ _ ts ts' _ H1.out M1.out M1'.out (H.out.r1.on X0.out) (H'.out.r1.on X0.out)).mono ?_; rintro e w' ⟨rfl, q, rfl⟩
    go_wp2
    go_ret
    exact ⟨retB (by rw [HT.out]), by have := X0.out; (repeat (first | assumption | exact Ext.refl _ | (with_reducible refine Ext.stepS ?_ (by first | exact Nat.le_refl _ | (simp; done) | (simp; omega)) _) | (with_reducible refine Ext.stepN ?_ _) | (with_reducible refine Ext.stepD ?_) | (with_reducible refine Ext.stepA ?_ _)))⟩
  have H1 := Lib.hid h1
  have HT := Lib.hid (show sameL zs zs' = r by rw [← hr]; unfold sameWB; rw [h1]; simp)
  clear h1 hr
  go_enter Try.func19, Try.ntmps19
  go_wp2_with fail
  clear b0 b1 b2 b3 d0 d1 d2 d3
  refine (c_Equal _ _ _ _ _ _ ts ts' _ H1.out M1.out M1'.out (H.out.r1.on X0.out) (H'.out.r1.on X0.out)).mono ?_; rintro e w' ⟨rfl, q, rfl⟩
  obtain ⟨b0, b1, b2, b3⟩ := (BX.out.on (Ext.drewN _ q)).four
  obtain ⟨d0, d1, d2, d3⟩ := (BY.out.on (Ext.drewN _ q)).four
  go_wp2_with fail
  clear b0 b1 b2 b3 d0 d1 d2 d3
  refine (c_Equal _ _ _ _ _ _ zs zs' _ HT.out M2.out M2'.out (H.out.r2.on (by have := X0.out; (repeat (first | assumption | exact Ext.refl _ | (with_reducible refine Ext.stepS ?_ (by first | exact Nat.le_refl _ | (simp; done) | (simp; omega)) _) | (with_reducible refine Ext.stepN ?_ _) | (with_reducible refine Ext.stepD ?_) | (with_reducible refine Ext.stepA ?_ _))))) (H'.out.r2.on (by have := X0.out; (repeat (first | assumption | exact Ext.refl _ | (with_reducible refine Ext.stepS ?_ (by first | exact Nat.le_refl _ | (simp; done) | (simp; omega)) _) | (with_reducible refine Ext.stepN ?_ _) | (with_reducible refine Ext.stepD ?_) | (with_reducible refine Ext.stepA ?_ _)))))).mono ?_; rintro e w' ⟨rfl, q2, rfl⟩
  go_wp2
  go_ret
  exact ⟨rfl, by have := X0.out; (repeat (first | assumption | exact Ext.refl _ | (with_reducible refine Ext.stepS ?_ (by first | exact Nat.le_refl _ | (simp; done) | (simp; omega)) _) | (with_reducible refine Ext.stepN ?_ _) | (with_reducible refine Ext.stepD ?_) | (with_reducible refine Ext.stepA ?_ _)))⟩
set_option maxHeartbeats 4000000 in
theorem c_spec_l06Same (qa qb : Nat) (L P : Int) (a1 : Option Addr) (cap1 : Nat) (ts : List Int) (a2 : Option Addr) (cap2 : Nat) (zs : List Int) (L' P' : Int) (a1' : Option Addr) (cap1' : Nat) (ts' : List Int) (a2' : Option Addr) (cap2' : Nat) (zs' : List Int) (w : World) {r : Bool} (hr : sameWB L P ts zs L' P' ts' zs' = r)
    (hl : ts.length + zs.length ≤ 1048576) (h : Reads2 w a1 ts.length (ints ts) a2 zs.length (ints zs)) (hl' : ts'.length + zs'.length ≤ 1048576) (h' : Reads2 w a1' ts'.length (ints ts') a2' zs'.length (ints zs')) (ha : Box w qa 27 #[.int .i64 L, .int .i64 P, .slice a1 ts.length cap1, .slice a2 zs.length cap2]) (hb : Box w qb 27 #[.int .i64 L', .int .i64 P', .slice a1' ts'.length cap1', .slice a2' zs'.length cap2']) :
    Calls Try.prog 49 #[.pointer (some ⟨qa, 0, none⟩), .pointer (some ⟨qb, 0, none⟩)] w fun e w' => e = .returned (.bool r) ∧ Ext w w' := by
  have H := Lib.hid h
  have H' := Lib.hid h'
  have M1 := Lib.hid (show ts.length ≤ maxLen by unfold maxLen; omega)
  have M2 := Lib.hid (show zs.length ≤ maxLen by unfold maxLen; omega)
  have M1' := Lib.hid (show ts'.length ≤ maxLen by unfold maxLen; omega)
  have M2' := Lib.hid (show zs'.length ≤ maxLen by unfold maxLen; omega)
  have BX := Lib.hid ha
  have BY := Lib.hid hb
  have X0 := Lib.hid (Ext.refl w)
  obtain ⟨b0, b1, b2, b3⟩ := BX.out.four
  obtain ⟨d0, d1, d2, d3⟩ := BY.out.four
  clear h h' hl hl' ha hb
  by_cases hL : L = L'
  rotate_left
  · have HT := Lib.hid (show r = false by rw [← hr]; unfold sameWB; rw [decide_eq_false hL]; rfl)
    have e1 : (L == L') = false := by simpa using hL
    clear hr
    go_enter Try.func49, Try.ntmps49
    go_upto_region 1 with fail
    go_quiet (first | fail)
    go_wp2
    go_ret
    exact ⟨retB (by rw [HT.out]), by (repeat (first | assumption | exact Ext.refl _ | (with_reducible refine Ext.stepS ?_ (by first | exact Nat.le_refl _ | (simp; done) | (simp; omega)) _) | (with_reducible refine Ext.stepN ?_ _) | (with_reducible refine Ext.stepD ?_) | (with_reducible refine Ext.stepA ?_ _)))⟩
  subst hL
  have eL : (L == L) = true := by simp
  by_cases hP : P = P'
  rotate_left
  · have HT := Lib.hid (show r = false by rw [← hr]; unfold sameWB; rw [decide_eq_false hP]; simp)
    have e1 : (P == P') = false := by simpa using hP
    clear hr
    go_enter Try.func49, Try.ntmps49
    go_upto_region 1 with fail
    go_quiet (first | fail)
    go_wp2
    go_ret
    exact ⟨retB (by rw [HT.out]), by (repeat (first | assumption | exact Ext.refl _ | (with_reducible refine Ext.stepS ?_ (by first | exact Nat.le_refl _ | (simp; done) | (simp; omega)) _) | (with_reducible refine Ext.stepN ?_ _) | (with_reducible refine Ext.stepD ?_) | (with_reducible refine Ext.stepA ?_ _)))⟩
  subst hP
  have eP : (P == P) = true := by simp
  cases h1 : sameL ts ts'
  · have HT := Lib.hid (show r = false by rw [← hr]; unfold sameWB; rw [h1]; simp)
    have H1 := Lib.hid h1
    clear h1 hr
    go_enter Try.func49, Try.ntmps49
    go_upto_region 1 with fail
    go_quiet (first | (go_at_call_of 87 (Value.slice a1 ts.length cap1); exact Calls.quiet_of (c_spec_l06Equal _ _ _ _ _ _ ts ts' _ H1.out M1.out M1'.out (H.out.r1.on (by (repeat (first | assumption | exact Ext.refl _ | (with_reducible refine Ext.stepS ?_ (by first | exact Nat.le_refl _ | (simp; done) | (simp; omega)) _) | (with_reducible refine Ext.stepN ?_ _) | (with_reducible refine Ext.stepD ?_) | (with_reducible refine Ext.stepA ?_ _))))) (H'.out.r1.on (by (repeat (first | assumption | exact Ext.refl _ | (with_reducible refine Ext.stepS ?_ (by first | exact Nat.le_refl _ | (simp; done) | (simp; omega)) _) | (with_reducible refine Ext.stepN ?_ _) | (with_reducible refine Ext.stepD ?_) | (with_reducible refine Ext.stepA ?_ _))))))))
    go_wp2
    go_ret
    exact ⟨retB (by rw [HT.out]), by (repeat (first | assumption | exact Ext.refl _ | (with_reducible refine Ext.stepS ?_ (by first | exact Nat.le_refl _ | (simp; done) | (simp; omega)) _) | (with_reducible refine Ext.stepN ?_ _) | (with_reducible refine Ext.stepD ?_) | (with_reducible refine Ext.stepA ?_ _)))⟩
  have H1 := Lib.hid h1
  have HT := Lib.hid (show sameL zs zs' = r by rw [← hr]; unfold sameWB; rw [h1]; simp)
  clear h1 hr
  go_enter Try.func49, Try.ntmps49
  go_upto_region 1 with fail
  go_quiet (first | (go_at_call_of 87 (Value.slice a1 ts.length cap1); exact Calls.quiet_of (c_spec_l06Equal _ _ _ _ _ _ ts ts' _ H1.out M1.out M1'.out (H.out.r1.on (by (repeat (first | assumption | exact Ext.refl _ | (with_reducible refine Ext.stepS ?_ (by first | exact Nat.le_refl _ | (simp; done) | (simp; omega)) _) | (with_reducible refine Ext.stepN ?_ _) | (with_reducible refine Ext.stepD ?_) | (with_reducible refine Ext.stepA ?_ _))))) (H'.out.r1.on (by (repeat (first | assumption | exact Ext.refl _ | (with_reducible refine Ext.stepS ?_ (by first | exact Nat.le_refl _ | (simp; done) | (simp; omega)) _) | (with_reducible refine Ext.stepN ?_ _) | (with_reducible refine Ext.stepD ?_) | (with_reducible refine Ext.stepA ?_ _))))))) | (go_at_call_of 87 (Value.slice a2 zs.length cap2); exact Calls.quiet_of (c_spec_l06Equal _ _ _ _ _ _ zs zs' _ HT.out M2.out M2'.out (H.out.r2.on (by (repeat (first | assumption | exact Ext.refl _ | (with_reducible refine Ext.stepS ?_ (by first | exact Nat.le_refl _ | (simp; done) | (simp; omega)) _) | (with_reducible refine Ext.stepN ?_ _) | (with_reducible refine Ext.stepD ?_) | (with_reducible refine Ext.stepA ?_ _))))) (H'.out.r2.on (by (repeat (first | assumption | exact Ext.refl _ | (with_reducible refine Ext.stepS ?_ (by first | exact Nat.le_refl _ | (simp; done) | (simp; omega)) _) | (with_reducible refine Ext.stepN ?_ _) | (with_reducible refine Ext.stepD ?_) | (with_reducible refine Ext.stepA ?_ _))))))))
  go_wp2
  go_ret
  exact ⟨rfl, by (repeat (first | assumption | exact Ext.refl _ | (with_reducible refine Ext.stepS ?_ (by first | exact Nat.le_refl _ | (simp; done) | (simp; omega)) _) | (with_reducible refine Ext.stepN ?_ _) | (with_reducible refine Ext.stepD ?_) | (with_reducible refine Ext.stepA ?_ _)))⟩
theorem c_spec_SameWindow (L P : Int) (a1 : Option Addr) (cap1 : Nat) (ts : List Int) (a2 : Option Addr) (cap2 : Nat) (zs : List Int) (L' P' : Int) (a1' : Option Addr) (cap1' : Nat) (ts' : List Int) (a2' : Option Addr) (cap2' : Nat) (zs' : List Int) (w : World) {r : Bool} (hr : sameWB L P ts zs L' P' ts' zs' = r)
    (hl : ts.length + zs.length ≤ 1048576) (h : Reads2 w a1 ts.length (ints ts) a2 zs.length (ints zs)) (hl' : ts'.length + zs'.length ≤ 1048576) (h' : Reads2 w a1' ts'.length (ints ts') a2' zs'.length (ints zs')) :
    Calls Try.prog 18 #[.agg #[.int .i64 L, .int .i64 P, .slice a1 ts.length cap1, .slice a2 zs.length cap2], .agg #[.int .i64 L', .int .i64 P', .slice a1' ts'.length cap1', .slice a2' zs'.length cap2']] w fun e w' => e = .returned (.bool r) ∧ Ext w w' := by
  have H := Lib.hid h
  have H' := Lib.hid h'
  have HR := Lib.hid hr
  have HL := Lib.hid hl
  have HL' := Lib.hid hl'
  have BX := Lib.hid ((Box.alloc w #[.int .i64 L, .int .i64 P, .slice a1 ts.length cap1, .slice a2 zs.length cap2] 27).past (.cells #[.int .i64 L', .int .i64 P', .slice a1' ts'.length cap1', .slice a2' zs'.length cap2'] 27))
  have BY := Lib.hid (Box.alloc_at (w.alloc (.cells #[.int .i64 L, .int .i64 P, .slice a1 ts.length cap1, .slice a2 zs.length cap2] 27)) #[.int .i64 L', .int .i64 P', .slice a1' ts'.length cap1', .slice a2' zs'.length cap2'] 27 (b := w.heap.size + 1) (by simp))
  have X0 := Lib.hid (((Ext.refl w).stepA (.cells #[.int .i64 L, .int .i64 P, .slice a1 ts.length cap1, .slice a2 zs.length cap2] 27)).stepA (.cells #[.int .i64 L', .int .i64 P', .slice a1' ts'.length cap1', .slice a2' zs'.length cap2'] 27))
  clear h h' hr hl hl'
  go_enter Try.func18, Try.ntmps18
  go_wp2_with (go_at_call 49; refine (c_spec_l06Same _ _ L P a1 cap1 ts a2 cap2 zs L' P' a1' cap1' ts' a2' cap2' zs' _ HR.out HL.out (H.out.on X0.out) HL'.out (H'.out.on X0.out) BX.out BY.out).mono ?_; rintro e w' ⟨rfl, x'⟩)
  go_ret
  exact ⟨rfl, X0.out.trans x'⟩
end Go.Proofs.Ytmlnnnagbkknhaa
