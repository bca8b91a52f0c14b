/- SameSummary: both sides. -/
import Derived.Test.YtmgkbgdbahijnaaSfl
import Derived.Test.YtmgkbgdbahijnaaSmf
namespace Go.Proofs.Ytmgkbgdbahijnaa
open Go.ChangeShapes Go.WideShapes Go.ChangeAt Go.RowKit Go.Proofs.Ytmgkbgdbahijnaa.Flo
set_option linter.unusedVariables false
def sameYB (N C : Int) (vs : List Nat) (gs ss : List Int) (N' C' : Int) (vs' : List Nat) (gs' ss' : List Int) : Bool := decide (N = N') && (decide (C = C') && (sameF vs vs' && (sameL gs gs' && sameL ss ss')))
set_option maxHeartbeats 4000000 in
theorem c_impl_SameSummary (N C : Int) (a1 : Option Addr) (cap1 : Nat) (vs : List Nat) (a2 : Option Addr) (cap2 : Nat) (gs : List Int) (a3 : Option Addr) (cap3 : Nat) (ss : List Int) (N' C' : Int) (a1' : Option Addr) (cap1' : Nat) (vs' : List Nat) (a2' : Option Addr) (cap2' : Nat) (gs' : List Int) (a3' : Option Addr) (cap3' : Nat) (ss' : List Int) (w : World) {r : Bool} (hr : sameYB N C vs gs ss N' C' vs' gs' ss' = r)
    (hl : vs.length + gs.length + ss.length ≤ 1048576) (h : Reads3 w a1 vs.length (flos vs) a2 gs.length (ints gs) a3 ss.length (ints ss)) (hl' : vs'.length + gs'.length + ss'.length ≤ 1048576) (h' : Reads3 w a1' vs'.length (flos vs') a2' gs'.length (ints gs') a3' ss'.length (ints ss')) (hb : ∀ z ∈ vs, z < 4294967296) (hb' : ∀ z ∈ vs', z < 4294967296) :
    Calls Try.prog 25 #[.agg #[.int .i64 N, .int .i64 C, .slice a1 vs.length cap1, .slice a2 gs.length cap2, .slice a3 ss.length cap3], .agg #[.int .i64 N', .int .i64 C', .slice a1' vs'.length cap1', .slice a2' gs'.length cap2', .slice a3' ss'.length cap3']] w fun e w' => e = .returned (.bool r) ∧ Ext w w' := by
  have H := Lib.hid h
  have H' := Lib.hid h'
  have HB := Lib.hid hb
  have HB' := Lib.hid hb'
  have M1 := Lib.hid (show vs.length ≤ maxLen by unfold maxLen; omega)
  have M2 := Lib.hid (show gs.length ≤ maxLen by unfold maxLen; omega)
  have M3 := Lib.hid (show ss.length ≤ maxLen by unfold maxLen; omega)
  have M1' := Lib.hid (show vs'.length ≤ maxLen by unfold maxLen; omega)
  have M2' := Lib.hid (show gs'.length ≤ maxLen by unfold maxLen; omega)
  have M3' := Lib.hid (show ss'.length ≤ maxLen by unfold maxLen; omega)
  have BX := Lib.hid ((Box.alloc w #[.int .i64 N, .int .i64 C, .slice a1 vs.length cap1, .slice a2 gs.length cap2, .slice a3 ss.length cap3] 31).past (.cells #[.int .i64 N', .int .i64 C', .slice a1' vs'.length cap1', .slice a2' gs'.length cap2', .slice a3' ss'.length cap3'] 31))
  have BY := Lib.hid (Box.alloc_at (w.alloc (.cells #[.int .i64 N, .int .i64 C, .slice a1 vs.length cap1, .slice a2 gs.length cap2, .slice a3 ss.length cap3] 31)) #[.int .i64 N', .int .i64 C', .slice a1' vs'.length cap1', .slice a2' gs'.length cap2', .slice a3' ss'.length cap3'] 31 (b := w.heap.size + 1) (by simp))
  have X0 := Lib.hid (((Ext.refl w).stepA (.cells #[.int .i64 N, .int .i64 C, .slice a1 vs.length cap1, .slice a2 gs.length cap2, .slice a3 ss.length cap3] 31)).stepA (.cells #[.int .i64 N', .int .i64 C', .slice a1' vs'.length cap1', .slice a2' gs'.length cap2', .slice a3' ss'.length cap3'] 31))
  obtain ⟨b0, b1, b2, b3, b4⟩ := BX.out.five
  obtain ⟨d0, d1, d2, d3, d4⟩ := BY.out.five
  clear h h' hl hl' hb hb'
  by_cases hR : N = N'
  · subst hR
    by_cases hC : C = C'
    · subst hC
      have e1 : (N == N) = true := by simp
      have e2 : (C == C) = true := by simp
      cases h1 : sameF vs vs'
      · have HT := Lib.hid (show r = false by rw [← hr]; unfold sameYB; rw [h1]; simp)
        have H1 := Lib.hid h1
        clear h1 hr
        go_enter Try.func25, Try.ntmps25
        go_wp2_with fail
        clear b0 b1 b2 b3 b4 d0 d1 d2 d3 d4
        refine (c_EqualFuncF _ _ _ _ _ _ vs vs' _ H1.out M1.out M1'.out (H.out.r1.on X0.out) (H'.out.r1.on X0.out) HB.out HB'.out).mono ?_; rintro e w' ⟨rfl, q, rfl⟩
        go_wp2
        go_ret
        exact ⟨retB (by rw [HT.out]), X0.out.stepN _⟩
      have H1 := Lib.hid h1
      cases h2 : sameL gs gs'
      · have HT := Lib.hid (show r = false by rw [← hr]; unfold sameYB; rw [h2]; simp)
        have H2 := Lib.hid h2
        clear h1 h2 hr
        go_enter Try.func25, Try.ntmps25
        go_wp2_with fail
        clear b0 b1 b2 b3 b4 d0 d1 d2 d3 d4
        refine (c_EqualFuncF _ _ _ _ _ _ vs vs' _ H1.out M1.out M1'.out (H.out.r1.on X0.out) (H'.out.r1.on X0.out) HB.out HB'.out).mono ?_; rintro e w' ⟨rfl, q, rfl⟩
        obtain ⟨b0, b1, b2, b3, b4⟩ := (BX.out.on (Ext.drewN _ q)).five
        obtain ⟨d0, d1, d2, d3, d4⟩ := (BY.out.on (Ext.drewN _ q)).five
        try simp only [World.drewN_drewN] at b0 b1 b2 b3 b4 d0 d1 d2 d3 d4
        go_wp2_with fail
        clear b0 b1 b2 b3 b4 d0 d1 d2 d3 d4
        refine (c_Equal _ _ _ _ _ _ gs gs' _ H2.out M2.out M2'.out (H.out.r2.on (by have := X0.out; (repeat (first | assumption | exact Ext.refl _ | (with_reducible refine Ext.stepS ?_ (by first | exact Nat.le_refl _ | (simp; done) | (simp; omega)) _) | (with_reducible refine Ext.stepN ?_ _) | (with_reducible refine Ext.stepD ?_) | (with_reducible refine Ext.stepA ?_ _))))) (H'.out.r2.on (by have := X0.out; (repeat (first | assumption | exact Ext.refl _ | (with_reducible refine Ext.stepS ?_ (by first | exact Nat.le_refl _ | (simp; done) | (simp; omega)) _) | (with_reducible refine Ext.stepN ?_ _) | (with_reducible refine Ext.stepD ?_) | (with_reducible refine Ext.stepA ?_ _)))))).mono ?_; rintro e w' ⟨rfl, q2, rfl⟩
        go_wp2
        go_ret
        exact ⟨retB (by rw [HT.out]), by have := X0.out; (repeat (first | assumption | exact Ext.refl _ | (with_reducible refine Ext.stepS ?_ (by first | exact Nat.le_refl _ | (simp; done) | (simp; omega)) _) | (with_reducible refine Ext.stepN ?_ _) | (with_reducible refine Ext.stepD ?_) | (with_reducible refine Ext.stepA ?_ _)))⟩
      · have HT := Lib.hid (show sameL ss ss' = r by rw [← hr]; unfold sameYB; rw [h1, h2]; simp)
        have H2 := Lib.hid h2
        clear h1 h2 hr
        go_enter Try.func25, Try.ntmps25
        go_wp2_with fail
        clear b0 b1 b2 b3 b4 d0 d1 d2 d3 d4
        refine (c_EqualFuncF _ _ _ _ _ _ vs vs' _ H1.out M1.out M1'.out (H.out.r1.on X0.out) (H'.out.r1.on X0.out) HB.out HB'.out).mono ?_; rintro e w' ⟨rfl, q, rfl⟩
        obtain ⟨b0, b1, b2, b3, b4⟩ := (BX.out.on (Ext.drewN _ q)).five
        obtain ⟨d0, d1, d2, d3, d4⟩ := (BY.out.on (Ext.drewN _ q)).five
        try simp only [World.drewN_drewN] at b0 b1 b2 b3 b4 d0 d1 d2 d3 d4
        go_wp2_with fail
        clear b0 b1 b2 b3 b4 d0 d1 d2 d3 d4
        refine (c_Equal _ _ _ _ _ _ gs gs' _ H2.out M2.out M2'.out (H.out.r2.on (by have := X0.out; (repeat (first | assumption | exact Ext.refl _ | (with_reducible refine Ext.stepS ?_ (by first | exact Nat.le_refl _ | (simp; done) | (simp; omega)) _) | (with_reducible refine Ext.stepN ?_ _) | (with_reducible refine Ext.stepD ?_) | (with_reducible refine Ext.stepA ?_ _))))) (H'.out.r2.on (by have := X0.out; (repeat (first | assumption | exact Ext.refl _ | (with_reducible refine Ext.stepS ?_ (by first | exact Nat.le_refl _ | (simp; done) | (simp; omega)) _) | (with_reducible refine Ext.stepN ?_ _) | (with_reducible refine Ext.stepD ?_) | (with_reducible refine Ext.stepA ?_ _)))))).mono ?_; rintro e w' ⟨rfl, q2, rfl⟩
        obtain ⟨b0, b1, b2, b3, b4⟩ := ((BX.out.on (Ext.drewN _ q)).on (Ext.drewN _ q2)).five
        obtain ⟨d0, d1, d2, d3, d4⟩ := ((BY.out.on (Ext.drewN _ q)).on (Ext.drewN _ q2)).five
        try simp only [World.drewN_drewN] at b0 b1 b2 b3 b4 d0 d1 d2 d3 d4
        go_wp2_with fail
        clear b0 b1 b2 b3 b4 d0 d1 d2 d3 d4
        refine (c_Equal _ _ _ _ _ _ ss ss' _ HT.out M3.out M3'.out (H.out.r3.on (by have := X0.out; (repeat (first | assumption | exact Ext.refl _ | (with_reducible refine Ext.stepS ?_ (by first | exact Nat.le_refl _ | (simp; done) | (simp; omega)) _) | (with_reducible refine Ext.stepN ?_ _) | (with_reducible refine Ext.stepD ?_) | (with_reducible refine Ext.stepA ?_ _))))) (H'.out.r3.on (by have := X0.out; (repeat (first | assumption | exact Ext.refl _ | (with_reducible refine Ext.stepS ?_ (by first | exact Nat.le_refl _ | (simp; done) | (simp; omega)) _) | (with_reducible refine Ext.stepN ?_ _) | (with_reducible refine Ext.stepD ?_) | (with_reducible refine Ext.stepA ?_ _)))))).mono ?_; rintro e w' ⟨rfl, q3, rfl⟩
        go_wp2
        go_ret
        exact ⟨rfl, by have := X0.out; (repeat (first | assumption | exact Ext.refl _ | (with_reducible refine Ext.stepS ?_ (by first | exact Nat.le_refl _ | (simp; done) | (simp; omega)) _) | (with_reducible refine Ext.stepN ?_ _) | (with_reducible refine Ext.stepD ?_) | (with_reducible refine Ext.stepA ?_ _)))⟩
    · have HT := Lib.hid (show r = false by rw [← hr]; unfold sameYB; rw [decide_eq_false hC]; simp)
      have e1 : (N == N) = true := by simp
      have e2 : (C == C') = false := by simpa using hC
      clear hr
      go_enter Try.func25, Try.ntmps25
      go_wp2
      go_ret
      exact ⟨retB (by rw [HT.out]), X0.out⟩
  · have HT := Lib.hid (show r = false by rw [← hr]; unfold sameYB; rw [decide_eq_false hR]; rfl)
    have e1 : (N == N') = false := by simpa using hR
    clear hr
    go_enter Try.func25, Try.ntmps25
    go_wp2
    go_ret
    exact ⟨retB (by rw [HT.out]), X0.out⟩
set_option maxHeartbeats 4000000 in
theorem c_spec_SameSummary (N C : Int) (a1 : Option Addr) (cap1 : Nat) (vs : List Nat) (a2 : Option Addr) (cap2 : Nat) (gs : List Int) (a3 : Option Addr) (cap3 : Nat) (ss : List Int) (N' C' : Int) (a1' : Option Addr) (cap1' : Nat) (vs' : List Nat) (a2' : Option Addr) (cap2' : Nat) (gs' : List Int) (a3' : Option Addr) (cap3' : Nat) (ss' : List Int) (w : World) {r : Bool} (hr : sameYB N C vs gs ss N' C' vs' gs' ss' = r)
    (hl : vs.length + gs.length + ss.length ≤ 1048576) (h : Reads3 w a1 vs.length (flos vs) a2 gs.length (ints gs) a3 ss.length (ints ss)) (hl' : vs'.length + gs'.length + ss'.length ≤ 1048576) (h' : Reads3 w a1' vs'.length (flos vs') a2' gs'.length (ints gs') a3' ss'.length (ints ss')) (hb : ∀ z ∈ vs, z < 4294967296) (hb' : ∀ z ∈ vs', z < 4294967296) :
    Calls Try.prog 24 #[.agg #[.int .i64 N, .int .i64 C, .slice a1 vs.length cap1, .slice a2 gs.length cap2, .slice a3 ss.length cap3], .agg #[.int .i64 N', .int .i64 C', .slice a1' vs'.length cap1', .slice a2' gs'.length cap2', .slice a3' ss'.length cap3']] w fun e w' => e = .returned (.bool r) ∧ Ext w w' := by
  have H := Lib.hid h
  have H' := Lib.hid h'
  have HB := Lib.hid hb
  have HB' := Lib.hid hb'
  have M1 := Lib.hid (show vs.length ≤ maxLen by unfold maxLen; omega)
  have M2 := Lib.hid (show gs.length ≤ maxLen by unfold maxLen; omega)
  have M3 := Lib.hid (show ss.length ≤ maxLen by unfold maxLen; omega)
  have M1' := Lib.hid (show vs'.length ≤ maxLen by unfold maxLen; omega)
  have M2' := Lib.hid (show gs'.length ≤ maxLen by unfold maxLen; omega)
  have M3' := Lib.hid (show ss'.length ≤ maxLen by unfold maxLen; omega)
  have BX := Lib.hid ((Box.alloc w #[.int .i64 N, .int .i64 C, .slice a1 vs.length cap1, .slice a2 gs.length cap2, .slice a3 ss.length cap3] 31).past (.cells #[.int .i64 N', .int .i64 C', .slice a1' vs'.length cap1', .slice a2' gs'.length cap2', .slice a3' ss'.length cap3'] 31))
  have BY := Lib.hid (Box.alloc_at (w.alloc (.cells #[.int .i64 N, .int .i64 C, .slice a1 vs.length cap1, .slice a2 gs.length cap2, .slice a3 ss.length cap3] 31)) #[.int .i64 N', .int .i64 C', .slice a1' vs'.length cap1', .slice a2' gs'.length cap2', .slice a3' ss'.length cap3'] 31 (b := w.heap.size + 1) (by simp))
  have X0 := Lib.hid (((Ext.refl w).stepA (.cells #[.int .i64 N, .int .i64 C, .slice a1 vs.length cap1, .slice a2 gs.length cap2, .slice a3 ss.length cap3] 31)).stepA (.cells #[.int .i64 N', .int .i64 C', .slice a1' vs'.length cap1', .slice a2' gs'.length cap2', .slice a3' ss'.length cap3'] 31))
  obtain ⟨b0, b1, b2, b3, b4⟩ := BX.out.five
  obtain ⟨d0, d1, d2, d3, d4⟩ := BY.out.five
  clear h h' hl hl' hb hb'
  by_cases hR : N = N'
  · subst hR
    by_cases hC : C = C'
    · subst hC
      have e1 : (N == N) = true := by simp
      have e2 : (C == C) = true := by simp
      cases h1 : sameF vs vs'
      · have HT := Lib.hid (show r = false by rw [← hr]; unfold sameYB; rw [h1]; simp)
        have H1 := Lib.hid h1
        clear h1 hr
        go_enter Try.func24, Try.ntmps24
        go_wp2_with fail
        clear b0 b1 b2 b3 b4 d0 d1 d2 d3 d4
        refine (c_spec_l01SameAll _ _ _ _ _ _ vs vs' _ H1.out M1.out M1'.out (H.out.r1.on X0.out) (H'.out.r1.on X0.out) HB.out HB'.out).mono ?_; rintro e w' ⟨rfl, q, rfl⟩
        go_wp2
        go_ret
        exact ⟨retB (by rw [HT.out]), X0.out.stepN _⟩
      have H1 := Lib.hid h1
      cases h2 : sameL gs gs'
      · have HT := Lib.hid (show r = false by rw [← hr]; unfold sameYB; rw [h2]; simp)
        have H2 := Lib.hid h2
        clear h1 h2 hr
        go_enter Try.func24, Try.ntmps24
        go_wp2_with fail
        clear b0 b1 b2 b3 b4 d0 d1 d2 d3 d4
        refine (c_spec_l01SameAll _ _ _ _ _ _ vs vs' _ H1.out M1.out M1'.out (H.out.r1.on X0.out) (H'.out.r1.on X0.out) HB.out HB'.out).mono ?_; rintro e w' ⟨rfl, q, rfl⟩
        obtain ⟨b0, b1, b2, b3, b4⟩ := (BX.out.on (Ext.drewN _ q)).five
        obtain ⟨d0, d1, d2, d3, d4⟩ := (BY.out.on (Ext.drewN _ q)).five
        try simp only [World.drewN_drewN] at b0 b1 b2 b3 b4 d0 d1 d2 d3 d4
        go_wp2_with fail
        clear b0 b1 b2 b3 b4 d0 d1 d2 d3 d4
        refine (c_spec_l00Same _ _ _ _ _ _ gs gs' _ H2.out M2.out M2'.out (H.out.r2.on (by have := X0.out; (repeat (first | assumption | exact Ext.refl _ | (with_reducible refine Ext.stepS ?_ (by first | exact Nat.le_refl _ | (simp; done) | (simp; omega)) _) | (with_reducible refine Ext.stepN ?_ _) | (with_reducible refine Ext.stepD ?_) | (with_reducible refine Ext.stepA ?_ _))))) (H'.out.r2.on (by have := X0.out; (repeat (first | assumption | exact Ext.refl _ | (with_reducible refine Ext.stepS ?_ (by first | exact Nat.le_refl _ | (simp; done) | (simp; omega)) _) | (with_reducible refine Ext.stepN ?_ _) | (with_reducible refine Ext.stepD ?_) | (with_reducible refine Ext.stepA ?_ _)))))).mono ?_; rintro e w' ⟨rfl, q2, rfl⟩
        go_wp2
        go_ret
        exact ⟨retB (by rw [HT.out]), by have := X0.out; (repeat (first | assumption | exact Ext.refl _ | (with_reducible refine Ext.stepS ?_ (by first | exact Nat.le_refl _ | (simp; done) | (simp; omega)) _) | (with_reducible refine Ext.stepN ?_ _) | (with_reducible refine Ext.stepD ?_) | (with_reducible refine Ext.stepA ?_ _)))⟩
      · have HT := Lib.hid (show sameL ss ss' = r by rw [← hr]; unfold sameYB; rw [h1, h2]; simp)
        have H2 := Lib.hid h2
        clear h1 h2 hr
        go_enter Try.func24, Try.ntmps24
        go_wp2_with fail
        clear b0 b1 b2 b3 b4 d0 d1 d2 d3 d4
        refine (c_spec_l01SameAll _ _ _ _ _ _ vs vs' _ H1.out M1.out M1'.out (H.out.r1.on X0.out) (H'.out.r1.on X0.out) HB.out HB'.out).mono ?_; rintro e w' ⟨rfl, q, rfl⟩
        obtain ⟨b0, b1, b2, b3, b4⟩ := (BX.out.on (Ext.drewN _ q)).five
        obtain ⟨d0, d1, d2, d3, d4⟩ := (BY.out.on (Ext.drewN _ q)).five
        try simp only [World.drewN_drewN] at b0 b1 b2 b3 b4 d0 d1 d2 d3 d4
        go_wp2_with fail
        clear b0 b1 b2 b3 b4 d0 d1 d2 d3 d4
        refine (c_spec_l00Same _ _ _ _ _ _ gs gs' _ H2.out M2.out M2'.out (H.out.r2.on (by have := X0.out; (repeat (first | assumption | exact Ext.refl _ | (with_reducible refine Ext.stepS ?_ (by first | exact Nat.le_refl _ | (simp; done) | (simp; omega)) _) | (with_reducible refine Ext.stepN ?_ _) | (with_reducible refine Ext.stepD ?_) | (with_reducible refine Ext.stepA ?_ _))))) (H'.out.r2.on (by have := X0.out; (repeat (first | assumption | exact Ext.refl _ | (with_reducible refine Ext.stepS ?_ (by first | exact Nat.le_refl _ | (simp; done) | (simp; omega)) _) | (with_reducible refine Ext.stepN ?_ _) | (with_reducible refine Ext.stepD ?_) | (with_reducible refine Ext.stepA ?_ _)))))).mono ?_; rintro e w' ⟨rfl, q2, rfl⟩
        obtain ⟨b0, b1, b2, b3, b4⟩ := ((BX.out.on (Ext.drewN _ q)).on (Ext.drewN _ q2)).five
        obtain ⟨d0, d1, d2, d3, d4⟩ := ((BY.out.on (Ext.drewN _ q)).on (Ext.drewN _ q2)).five
        try simp only [World.drewN_drewN] at b0 b1 b2 b3 b4 d0 d1 d2 d3 d4
        go_wp2_with fail
        clear b0 b1 b2 b3 b4 d0 d1 d2 d3 d4
        refine (c_spec_l00Same _ _ _ _ _ _ ss ss' _ HT.out M3.out M3'.out (H.out.r3.on (by have := X0.out; (repeat (first | assumption | exact Ext.refl _ | (with_reducible refine Ext.stepS ?_ (by first | exact Nat.le_refl _ | (simp; done) | (simp; omega)) _) | (with_reducible refine Ext.stepN ?_ _) | (with_reducible refine Ext.stepD ?_) | (with_reducible refine Ext.stepA ?_ _))))) (H'.out.r3.on (by have := X0.out; (repeat (first | assumption | exact Ext.refl _ | (with_reducible refine Ext.stepS ?_ (by first | exact Nat.le_refl _ | (simp; done) | (simp; omega)) _) | (with_reducible refine Ext.stepN ?_ _) | (with_reducible refine Ext.stepD ?_) | (with_reducible refine Ext.stepA ?_ _)))))).mono ?_; rintro e w' ⟨rfl, q3, rfl⟩
        go_wp2
        go_ret
        exact ⟨rfl, by have := X0.out; (repeat (first | assumption | exact Ext.refl _ | (with_reducible refine Ext.stepS ?_ (by first | exact Nat.le_refl _ | (simp; done) | (simp; omega)) _) | (with_reducible refine Ext.stepN ?_ _) | (with_reducible refine Ext.stepD ?_) | (with_reducible refine Ext.stepA ?_ _)))⟩
    · have HT := Lib.hid (show r = false by rw [← hr]; unfold sameYB; rw [decide_eq_false hC]; simp)
      have e1 : (N == N) = true := by simp
      have e2 : (C == C') = false := by simpa using hC
      clear hr
      go_enter Try.func24, Try.ntmps24
      go_wp2
      go_ret
      exact ⟨retB (by rw [HT.out]), X0.out⟩
  · have HT := Lib.hid (show r = false by rw [← hr]; unfold sameYB; rw [decide_eq_false hR]; rfl)
    have e1 : (N == N') = false := by simpa using hR
    clear hr
    go_enter Try.func24, Try.ntmps24
    go_wp2
    go_ret
    exact ⟨retB (by rw [HT.out]), X0.out⟩
end Go.Proofs.Ytmgkbgdbahijnaa
