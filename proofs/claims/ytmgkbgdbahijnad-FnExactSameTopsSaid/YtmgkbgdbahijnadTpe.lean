/- SameTops: both sides. -/
import Derived.Test.YtmgkbgdbahijnadTpb
import Derived.Test.YtmgkbgdbahijnadSme
namespace Go.Proofs.Ytmgkbgdbahijnad
open Go.ChangeShapes Go.WideShapes Go.ChangeAt Go.RowKit
set_option linter.unusedVariables false
def sameTB (R : Int) (ks cs es : List Int) (R' : Int) (ks' cs' es' : List Int) : Bool := decide (R = R') && (sameL ks ks' && (sameL cs cs' && sameL es es'))
set_option maxHeartbeats 4000000 in
theorem c_impl_SameTops (R : Int) (a1 : Option Addr) (cap1 : Nat) (ks : List Int) (a2 : Option Addr) (cap2 : Nat) (cs : List Int) (a3 : Option Addr) (cap3 : Nat) (es : List Int) (R' : Int) (a1' : Option Addr) (cap1' : Nat) (ks' : List Int) (a2' : Option Addr) (cap2' : Nat) (cs' : List Int) (a3' : Option Addr) (cap3' : Nat) (es' : List Int) (w : World) {r : Bool} (hr : sameTB R ks cs es R' ks' cs' es' = r)
    (hl : ks.length + cs.length + es.length ≤ 1048576) (h : Reads3 w a1 ks.length (ints ks) a2 cs.length (ints cs) a3 es.length (ints es)) (hl' : ks'.length + cs'.length + es'.length ≤ 1048576) (h' : Reads3 w a1' ks'.length (ints ks') a2' cs'.length (ints cs') a3' es'.length (ints es')) :
    Calls Try.prog 21 #[.agg #[.int .i64 R, .slice a1 ks.length cap1, .slice a2 cs.length cap2, .slice a3 es.length cap3], .agg #[.int .i64 R', .slice a1' ks'.length cap1', .slice a2' cs'.length cap2', .slice a3' es'.length cap3']] w fun e w' => e = .returned (.bool r) ∧ Ext w w' := by
  have H := Lib.hid h
  have H' := Lib.hid h'
  have M1 := Lib.hid (show ks.length ≤ maxLen by unfold maxLen; omega)
  have M2 := Lib.hid (show cs.length ≤ maxLen by unfold maxLen; omega)
  have M3 := Lib.hid (show es.length ≤ maxLen by unfold maxLen; omega)
  have M1' := Lib.hid (show ks'.length ≤ maxLen by unfold maxLen; omega)
  have M2' := Lib.hid (show cs'.length ≤ maxLen by unfold maxLen; omega)
  have M3' := Lib.hid (show es'.length ≤ maxLen by unfold maxLen; omega)
  have BX := Lib.hid ((Box.alloc w #[.int .i64 R, .slice a1 ks.length cap1, .slice a2 cs.length cap2, .slice a3 es.length cap3] 27).past (.cells #[.int .i64 R', .slice a1' ks'.length cap1', .slice a2' cs'.length cap2', .slice a3' es'.length cap3'] 27))
  have BY := Lib.hid (Box.alloc_at (w.alloc (.cells #[.int .i64 R, .slice a1 ks.length cap1, .slice a2 cs.length cap2, .slice a3 es.length cap3] 27)) #[.int .i64 R', .slice a1' ks'.length cap1', .slice a2' cs'.length cap2', .slice a3' es'.length cap3'] 27 (b := w.heap.size + 1) (by simp))
  have X0 := Lib.hid (((Ext.refl w).stepA (.cells #[.int .i64 R, .slice a1 ks.length cap1, .slice a2 cs.length cap2, .slice a3 es.length cap3] 27)).stepA (.cells #[.int .i64 R', .slice a1' ks'.length cap1', .slice a2' cs'.length cap2', .slice a3' es'.length cap3'] 27))
  obtain ⟨b0, b1, b2, b3⟩ := BX.out.four
  obtain ⟨d0, d1, d2, d3⟩ := BY.out.four
  clear h h' hl hl'
  by_cases hR : R = R'
  · subst hR
    cases h1 : sameL ks ks'
    · have HT := Lib.hid (show r = false by rw [← hr]; unfold sameTB; rw [h1]; simp)
      have H1 := Lib.hid h1
      clear h1 hr
      go_enter Try.func21, Try.ntmps21
      go_wp2_with (go_at_call 63; refine (c_Equal _ _ _ _ _ _ ks ks' _ H1.out M1.out M1'.out (H.out.r1.on X0.out) (H'.out.r1.on X0.out)).mono ?_; rintro e w' ⟨rfl, q, rfl⟩)
      go_ret
      exact ⟨retB (by rw [HT.out]), X0.out.stepN _⟩
    have H1 := Lib.hid h1
    cases h2 : sameL cs cs'
    · have HT := Lib.hid (show r = false by rw [← hr]; unfold sameTB; rw [h2]; simp)
      have H2 := Lib.hid h2
      clear h1 h2 hr
      go_enter Try.func21, Try.ntmps21
      go_wp2_with fail
      clear b0 b1 b2 b3 d0 d1 d2 d3
      refine (c_Equal _ _ _ _ _ _ ks ks' _ H1.out M1.out M1'.out (H.out.r1.on X0.out) (H'.out.r1.on X0.out)).mono ?_; rintro e w' ⟨rfl, q, rfl⟩
      obtain ⟨b0, b1, b2, b3⟩ := (BX.out.on (Ext.drewN _ q)).four
      obtain ⟨d0, d1, d2, d3⟩ := (BY.out.on (Ext.drewN _ q)).four
      go_wp2_with fail
      clear b0 b1 b2 b3 d0 d1 d2 d3
      refine (c_Equal _ _ _ _ _ _ cs cs' _ H2.out M2.out M2'.out (H.out.r2.on (X0.out.stepN _)) (H'.out.r2.on (X0.out.stepN _))).mono ?_; rintro e w' ⟨rfl, q2, rfl⟩
      go_wp2
      go_ret
      exact ⟨retB (by rw [HT.out]), by have := X0.out; (repeat (first | assumption | exact Ext.refl _ | (with_reducible refine Ext.stepS ?_ (by first | exact Nat.le_refl _ | (simp; done) | (simp; omega)) _) | (with_reducible refine Ext.stepN ?_ _) | (with_reducible refine Ext.stepD ?_) | (with_reducible refine Ext.stepA ?_ _)))⟩
    · have HT := Lib.hid (show sameL es es' = r by rw [← hr]; unfold sameTB; rw [h1, h2]; simp)
      have H2 := Lib.hid h2
      clear h1 h2 hr
      go_enter Try.func21, Try.ntmps21
      go_wp2_with fail
      clear b0 b1 b2 b3 d0 d1 d2 d3
      refine (c_Equal _ _ _ _ _ _ ks ks' _ H1.out M1.out M1'.out (H.out.r1.on X0.out) (H'.out.r1.on X0.out)).mono ?_; rintro e w' ⟨rfl, q, rfl⟩
      obtain ⟨b0, b1, b2, b3⟩ := (BX.out.on (Ext.drewN _ q)).four
      obtain ⟨d0, d1, d2, d3⟩ := (BY.out.on (Ext.drewN _ q)).four
      go_wp2_with fail
      clear b0 b1 b2 b3 d0 d1 d2 d3
      refine (c_Equal _ _ _ _ _ _ cs cs' _ H2.out M2.out M2'.out (H.out.r2.on (X0.out.stepN _)) (H'.out.r2.on (X0.out.stepN _))).mono ?_; rintro e w' ⟨rfl, q2, rfl⟩
      obtain ⟨b0, b1, b2, b3⟩ := ((BX.out.on (Ext.drewN _ q)).on (Ext.drewN _ q2)).four
      obtain ⟨d0, d1, d2, d3⟩ := ((BY.out.on (Ext.drewN _ q)).on (Ext.drewN _ q2)).four
      try simp only [World.drewN_drewN] at b0 b1 b2 b3 d0 d1 d2 d3
      go_wp2_with fail
      clear b0 b1 b2 b3 d0 d1 d2 d3
      refine (c_Equal _ _ _ _ _ _ es es' _ HT.out M3.out M3'.out (H.out.r3.on (by have := X0.out; (repeat (first | assumption | exact Ext.refl _ | (with_reducible refine Ext.stepS ?_ (by first | exact Nat.le_refl _ | (simp; done) | (simp; omega)) _) | (with_reducible refine Ext.stepN ?_ _) | (with_reducible refine Ext.stepD ?_) | (with_reducible refine Ext.stepA ?_ _))))) (H'.out.r3.on (by have := X0.out; (repeat (first | assumption | exact Ext.refl _ | (with_reducible refine Ext.stepS ?_ (by first | exact Nat.le_refl _ | (simp; done) | (simp; omega)) _) | (with_reducible refine Ext.stepN ?_ _) | (with_reducible refine Ext.stepD ?_) | (with_reducible refine Ext.stepA ?_ _)))))).mono ?_; rintro e w' ⟨rfl, q3, rfl⟩
      go_wp2
      go_ret
      exact ⟨rfl, by have := X0.out; (repeat (first | assumption | exact Ext.refl _ | (with_reducible refine Ext.stepS ?_ (by first | exact Nat.le_refl _ | (simp; done) | (simp; omega)) _) | (with_reducible refine Ext.stepN ?_ _) | (with_reducible refine Ext.stepD ?_) | (with_reducible refine Ext.stepA ?_ _)))⟩
  · have HT := Lib.hid (show r = false by rw [← hr]; unfold sameTB; rw [decide_eq_false hR]; rfl)
    have e1 : (R == R') = false := by simpa using hR
    clear hr
    go_enter Try.func21, Try.ntmps21
    go_wp2
    go_ret
    exact ⟨retB (by rw [HT.out]), X0.out⟩
set_option maxHeartbeats 4000000 in
theorem c_spec_SameTops (R : Int) (a1 : Option Addr) (cap1 : Nat) (ks : List Int) (a2 : Option Addr) (cap2 : Nat) (cs : List Int) (a3 : Option Addr) (cap3 : Nat) (es : List Int) (R' : Int) (a1' : Option Addr) (cap1' : Nat) (ks' : List Int) (a2' : Option Addr) (cap2' : Nat) (cs' : List Int) (a3' : Option Addr) (cap3' : Nat) (es' : List Int) (w : World) {r : Bool} (hr : sameTB R ks cs es R' ks' cs' es' = r)
    (hl : ks.length + cs.length + es.length ≤ 1048576) (h : Reads3 w a1 ks.length (ints ks) a2 cs.length (ints cs) a3 es.length (ints es)) (hl' : ks'.length + cs'.length + es'.length ≤ 1048576) (h' : Reads3 w a1' ks'.length (ints ks') a2' cs'.length (ints cs') a3' es'.length (ints es')) :
    Calls Try.prog 20 #[.agg #[.int .i64 R, .slice a1 ks.length cap1, .slice a2 cs.length cap2, .slice a3 es.length cap3], .agg #[.int .i64 R', .slice a1' ks'.length cap1', .slice a2' cs'.length cap2', .slice a3' es'.length cap3']] w fun e w' => e = .returned (.bool r) ∧ Ext w w' := by
  have H := Lib.hid h
  have H' := Lib.hid h'
  have M1 := Lib.hid (show ks.length ≤ maxLen by unfold maxLen; omega)
  have M2 := Lib.hid (show cs.length ≤ maxLen by unfold maxLen; omega)
  have M3 := Lib.hid (show es.length ≤ maxLen by unfold maxLen; omega)
  have M1' := Lib.hid (show ks'.length ≤ maxLen by unfold maxLen; omega)
  have M2' := Lib.hid (show cs'.length ≤ maxLen by unfold maxLen; omega)
  have M3' := Lib.hid (show es'.length ≤ maxLen by unfold maxLen; omega)
  have BX := Lib.hid ((Box.alloc w #[.int .i64 R, .slice a1 ks.length cap1, .slice a2 cs.length cap2, .slice a3 es.length cap3] 27).past (.cells #[.int .i64 R', .slice a1' ks'.length cap1', .slice a2' cs'.length cap2', .slice a3' es'.length cap3'] 27))
  have BY := Lib.hid (Box.alloc_at (w.alloc (.cells #[.int .i64 R, .slice a1 ks.length cap1, .slice a2 cs.length cap2, .slice a3 es.length cap3] 27)) #[.int .i64 R', .slice a1' ks'.length cap1', .slice a2' cs'.length cap2', .slice a3' es'.length cap3'] 27 (b := w.heap.size + 1) (by simp))
  have X0 := Lib.hid (((Ext.refl w).stepA (.cells #[.int .i64 R, .slice a1 ks.length cap1, .slice a2 cs.length cap2, .slice a3 es.length cap3] 27)).stepA (.cells #[.int .i64 R', .slice a1' ks'.length cap1', .slice a2' cs'.length cap2', .slice a3' es'.length cap3'] 27))
  obtain ⟨b0, b1, b2, b3⟩ := BX.out.four
  obtain ⟨d0, d1, d2, d3⟩ := BY.out.four
  clear h h' hl hl'
  by_cases hR : R = R'
  · subst hR
    cases h1 : sameL ks ks'
    · have HT := Lib.hid (show r = false by rw [← hr]; unfold sameTB; rw [h1]; simp)
      have H1 := Lib.hid h1
      clear h1 hr
      go_enter Try.func20, Try.ntmps20
      go_wp2_with (go_at_call 62; refine (c_spec_l00Same _ _ _ _ _ _ ks ks' _ H1.out M1.out M1'.out (H.out.r1.on X0.out) (H'.out.r1.on X0.out)).mono ?_; rintro e w' ⟨rfl, q, rfl⟩)
      go_ret
      exact ⟨retB (by rw [HT.out]), X0.out.stepN _⟩
    have H1 := Lib.hid h1
    cases h2 : sameL cs cs'
    · have HT := Lib.hid (show r = false by rw [← hr]; unfold sameTB; rw [h2]; simp)
      have H2 := Lib.hid h2
      clear h1 h2 hr
      go_enter Try.func20, Try.ntmps20
      go_wp2_with fail
      clear b0 b1 b2 b3 d0 d1 d2 d3
      refine (c_spec_l00Same _ _ _ _ _ _ ks ks' _ H1.out M1.out M1'.out (H.out.r1.on X0.out) (H'.out.r1.on X0.out)).mono ?_; rintro e w' ⟨rfl, q, rfl⟩
      obtain ⟨b0, b1, b2, b3⟩ := (BX.out.on (Ext.drewN _ q)).four
      obtain ⟨d0, d1, d2, d3⟩ := (BY.out.on (Ext.drewN _ q)).four
      go_wp2_with fail
      clear b0 b1 b2 b3 d0 d1 d2 d3
      refine (c_spec_l00Same _ _ _ _ _ _ cs cs' _ H2.out M2.out M2'.out (H.out.r2.on (X0.out.stepN _)) (H'.out.r2.on (X0.out.stepN _))).mono ?_; rintro e w' ⟨rfl, q2, rfl⟩
      go_wp2
      go_ret
      exact ⟨retB (by rw [HT.out]), by have := X0.out; (repeat (first | assumption | exact Ext.refl _ | (with_reducible refine Ext.stepS ?_ (by first | exact Nat.le_refl _ | (simp; done) | (simp; omega)) _) | (with_reducible refine Ext.stepN ?_ _) | (with_reducible refine Ext.stepD ?_) | (with_reducible refine Ext.stepA ?_ _)))⟩
    · have HT := Lib.hid (show sameL es es' = r by rw [← hr]; unfold sameTB; rw [h1, h2]; simp)
      have H2 := Lib.hid h2
      clear h1 h2 hr
      go_enter Try.func20, Try.ntmps20
      go_wp2_with fail
      clear b0 b1 b2 b3 d0 d1 d2 d3
      refine (c_spec_l00Same _ _ _ _ _ _ ks ks' _ H1.out M1.out M1'.out (H.out.r1.on X0.out) (H'.out.r1.on X0.out)).mono ?_; rintro e w' ⟨rfl, q, rfl⟩
      obtain ⟨b0, b1, b2, b3⟩ := (BX.out.on (Ext.drewN _ q)).four
      obtain ⟨d0, d1, d2, d3⟩ := (BY.out.on (Ext.drewN _ q)).four
      go_wp2_with fail
      clear b0 b1 b2 b3 d0 d1 d2 d3
      refine (c_spec_l00Same _ _ _ _ _ _ cs cs' _ H2.out M2.out M2'.out (H.out.r2.on (X0.out.stepN _)) (H'.out.r2.on (X0.out.stepN _))).mono ?_; rintro e w' ⟨rfl, q2, rfl⟩
      obtain ⟨b0, b1, b2, b3⟩ := ((BX.out.on (Ext.drewN _ q)).on (Ext.drewN _ q2)).four
      obtain ⟨d0, d1, d2, d3⟩ := ((BY.out.on (Ext.drewN _ q)).on (Ext.drewN _ q2)).four
      try simp only [World.drewN_drewN] at b0 b1 b2 b3 d0 d1 d2 d3
      go_wp2_with fail
      clear b0 b1 b2 b3 d0 d1 d2 d3
      refine (c_spec_l00Same _ _ _ _ _ _ es es' _ HT.out M3.out M3'.out (H.out.r3.on (by have := X0.out; (repeat (first | assumption | exact Ext.refl _ | (with_reducible refine Ext.stepS ?_ (by first | exact Nat.le_refl _ | (simp; done) | (simp; omega)) _) | (with_reducible refine Ext.stepN ?_ _) | (with_reducible refine Ext.stepD ?_) | (with_reducible refine Ext.stepA ?_ _))))) (H'.out.r3.on (by have := X0.out; (repeat (first | assumption | exact Ext.refl _ | (with_reducible refine Ext.stepS ?_ (by first | exact Nat.le_refl _ | (simp; done) | (simp; omega)) _) | (with_reducible refine Ext.stepN ?_ _) | (with_reducible refine Ext.stepD ?_) | (with_reducible refine Ext.stepA ?_ _)))))).mono ?_; rintro e w' ⟨rfl, q3, rfl⟩
      go_wp2
      go_ret
      exact ⟨rfl, by have := X0.out; (repeat (first | assumption | exact Ext.refl _ | (with_reducible refine Ext.stepS ?_ (by first | exact Nat.le_refl _ | (simp; done) | (simp; omega)) _) | (with_reducible refine Ext.stepN ?_ _) | (with_reducible refine Ext.stepD ?_) | (with_reducible refine Ext.stepA ?_ _)))⟩
  · have HT := Lib.hid (show r = false by rw [← hr]; unfold sameTB; rw [decide_eq_false hR]; rfl)
    have e1 : (R == R') = false := by simpa using hR
    clear hr
    go_enter Try.func20, Try.ntmps20
    go_wp2
    go_ret
    exact ⟨retB (by rw [HT.out]), X0.out⟩
end Go.Proofs.Ytmgkbgdbahijnad
