/- Decays: valid ones, equal ones, on both sides. -/
import Derived.Test.YtmlnnnagbkknhabFar
import Derived.Test.YtmlnnnagbkknhabSfl
import Derived.Test.YtmlnnnagbkknhabCel
namespace Go.Proofs.Ytmlnnnagbkknhab
open Go.ChangeShapes Go.WideShapes Go.ChangeAt Go.RowKit Go.Proofs.Ytmlnnnagbkknhab.Flo
set_option linter.unusedVariables false
attribute [local go_sem] run_store_float
theorem retB_d {a b : Bool} (h : a = b) : Ending.returned (.bool a) = Ending.returned (.bool b) := by rw [h]
theorem inB_isD {lo k hi : Int} : inB lo k hi = true ↔ lo ≤ k ∧ k ≤ hi := by unfold inB; exact decide_eq_true_iff
theorem Box.threeD {w : World} {b : Nat} {t : TypeId} {x0 x1 x2 : Value} (h : Box w b t #[x0, x1, x2]) : w.cell? ⟨b, 0, none⟩ = some x0 ∧ w.cell? ⟨b, 1, none⟩ = some x1 ∧ w.cell? ⟨b, 2, none⟩ = some x2 := h.three
def gt0 (x : Nat) : Bool := FloatKind.f32.format.order x 0 == some .gt
def aboveB (x : Nat) : Bool := isFin .f32 x && gt0 x
def decB (h s : Nat) (m : Int) : Bool := aboveB h && (isFin .f32 s && inB 0 m 1000000)
def sameDB (h s : Nat) (m : Int) (h' s' : Nat) (m' : Int) : Bool := decide (m = m') && (sameN h h' && sameN s s')
theorem c_toD (h s : Nat) (m : Int) (w : World) :
    Calls Try.prog 16 #[.agg #[.float .f32 h, .float .f32 s, .int .i64 m]] w fun e w' => e = .returned (.agg #[.float .f32 h, .float .f32 s, .int .i64 m]) ∧ Ext w w' := by
  go_enter Try.func16, Try.ntmps16
  go_wp2
  refine bodyPost_ret (v := .agg #[.float .f32 h, .float .f32 s, .int .i64 m]) (by simp [results, Try.results16, go_sem]) rfl ⟨rfl, ?_⟩
  (repeat (first | assumption | exact Ext.refl _ | (with_reducible refine Ext.stepS ?_ (by first | exact Nat.le_refl _ | (simp; done) | (simp; omega)) _) | (with_reducible refine Ext.stepN ?_ _) | (with_reducible refine Ext.stepD ?_) | (with_reducible refine Ext.stepA ?_ _)))
theorem c_l00In_d (k lo hi : Int) (w : World) {b : Bool} (h : inB lo k hi = b) : Calls Try.prog 58 #[.int .i64 k, .int .i64 lo, .int .i64 hi] w fun e w' => e = .returned (.bool b) ∧ w = w' := by
  subst h; exact (c_l00In k lo hi w).mono (by rintro e w' ⟨rfl, rfl⟩; exact ⟨rfl, rfl⟩)
theorem c_spec_l06Time_d (k : Int) (w : World) {b : Bool} (h : inB 0 k 1000000 = b) : Calls Try.prog 97 #[.int .i64 k] w fun e w' => e = .returned (.bool b) ∧ w = w' := by
  have H := Lib.hid h
  clear h
  go_enter Try.func97, Try.ntmps97
  go_wp2_with (go_at_call 58; refine (c_l00In_d k 0 1000000 _ H.out).mono ?_; rintro e w' ⟨rfl, rfl⟩)
  go_ret
  exact ⟨rfl, rfl⟩
theorem c_impl_isTime_d (k : Int) (w : World) {b : Bool} (h : inB 0 k 1000000 = b) : Calls Try.prog 55 #[.int .i64 k] w fun e w' => e = .returned (.bool b) ∧ w = w' := by
  by_cases h0 : k < 0
  · have H := Lib.hid (show b = false by rw [← h]; exact inB_no (by omega))
    clear h
    go_enter Try.func55, Try.ntmps55
    go_wp2
    go_ret
    exact ⟨retB_d (by first | (rw [H.out]; done) | (rw [H.out]; rfl) | (rw [H.out]; simp; done) | (rw [H.out]; simp; omega)), rfl⟩
  have h0' : 0 ≤ k := by omega
  by_cases h1 : k ≤ 1000000
  · have H := Lib.hid (show b = true by rw [← h]; exact inB_yes h0' h1)
    clear h
    go_enter Try.func55, Try.ntmps55
    go_wp2
    go_ret
    exact ⟨retB_d (by first | (rw [H.out]; done) | (rw [H.out]; rfl) | (rw [H.out]; simp; done) | (rw [H.out]; simp; omega)), rfl⟩
  · have H := Lib.hid (show b = false by rw [← h]; exact inB_no (by omega))
    clear h
    go_enter Try.func55, Try.ntmps55
    go_wp2
    go_ret
    exact ⟨retB_d (by first | (rw [H.out]; done) | (rw [H.out]; rfl) | (rw [H.out]; simp; done) | (rw [H.out]; simp; omega)), rfl⟩
theorem c_spec_l02Above (x : Nat) (w : World) {r : Bool} (hr : aboveB x = r) : Calls Try.prog 96 #[.float .f32 x] w fun e w' => e = .returned (.bool r) ∧ ∃ q, w' = w.drewN q := by
  cases hf : isFin .f32 x
  · have HF := Lib.hid hf
    have HR := Lib.hid (show r = false by rw [← hr]; unfold aboveB; rw [hf]; rfl)
    clear hr hf
    go_enter Try.func96, Try.ntmps96
    go_wp2_with (go_at_call 62; refine (c_spec_l01Finite_b x _ HF.out).mono ?_; rintro e w' ⟨rfl, q, rfl⟩)
    go_ret
    exact ⟨retB_d (by rw [HR.out]), _, rfl⟩
  · have HF := Lib.hid hf
    cases hg : (FloatKind.f32.format.order x 0 == some .gt)
    all_goals
      have HR := Lib.hid (show r = (FloatKind.f32.format.order x 0 == some .gt) by rw [← hr]; unfold aboveB gt0; rw [hf]; rfl)
      have HG := Lib.hid hg
      clear hr hf
      go_enter Try.func96, Try.ntmps96
      go_wp2_with (go_at_call 62; refine (c_spec_l01Finite_b x _ HF.out).mono ?_; rintro e w' ⟨rfl, q, rfl⟩)
      go_ret
      exact ⟨retB_d (by rw [HR.out, HG.out]), _, rfl⟩
set_option maxHeartbeats 1000000 in
theorem c_impl_ValidDecay (h s : Nat) (m : Int) (w : World) {r : Bool} (hr : decB h s m = r) (hh : h < 4294967296) (hs : s < 4294967296) :
    Calls Try.prog 17 #[.agg #[.float .f32 h, .float .f32 s, .int .i64 m]] w fun e w' => e = .returned (.bool r) ∧ Ext w w' := by
  have HH := Lib.hid hh
  have HS := Lib.hid hs
  have BX := Lib.hid (Box.alloc w #[.float .f32 h, .float .f32 s, .int .i64 m] 26)
  have X0 := Lib.hid (Ext.alloc w (.cells #[.float .f32 h, .float .f32 s, .int .i64 m] 26))
  obtain ⟨b0, b1, b2⟩ := BX.out.three
  clear hh hs
  cases f1 : isFin .f32 h
  · have HR := Lib.hid (show r = false by rw [← hr]; unfold decB aboveB; rw [f1]; rfl)
    have F1 := Lib.hid f1
    clear hr f1
    go_enter Try.func17, Try.ntmps17
    go_wp2_with fail
    clear b0 b1 b2
    refine (c_impl_IsFinite_b h _ HH.out F1.out).mono ?_; rintro e w1 ⟨rfl, q1, rfl⟩
    go_wp2
    go_ret
    exact ⟨retB_d (by rw [HR.out]), by have := X0.out; (repeat (first | assumption | exact Ext.refl _ | (with_reducible refine Ext.stepS ?_ (by first | exact Nat.le_refl _ | (simp; done) | (simp; omega)) _) | (with_reducible refine Ext.stepN ?_ _) | (with_reducible refine Ext.stepD ?_) | (with_reducible refine Ext.stepA ?_ _)))⟩
  have F1 := Lib.hid f1
  cases g1 : (FloatKind.f32.format.order h 0 == some .gt)
  · have HR := Lib.hid (show r = false by rw [← hr]; unfold decB aboveB gt0; rw [f1, g1]; rfl)
    clear hr f1
    go_enter Try.func17, Try.ntmps17
    go_wp2_with fail
    clear b0 b1 b2
    refine (c_impl_IsFinite_b h _ HH.out F1.out).mono ?_; rintro e w1 ⟨rfl, q1, rfl⟩
    obtain ⟨b0, b1, b2⟩ := (BX.out.on (Ext.drewN _ q1)).three
    go_wp2
    go_ret
    exact ⟨retB_d (by rw [HR.out]), by have := X0.out; (repeat (first | assumption | exact Ext.refl _ | (with_reducible refine Ext.stepS ?_ (by first | exact Nat.le_refl _ | (simp; done) | (simp; omega)) _) | (with_reducible refine Ext.stepN ?_ _) | (with_reducible refine Ext.stepD ?_) | (with_reducible refine Ext.stepA ?_ _)))⟩
  have HA := Lib.hid (show aboveB h = true by unfold aboveB gt0; rw [f1, g1]; rfl)
  cases f2 : isFin .f32 s
  · have HR := Lib.hid (show r = false by rw [← hr]; unfold decB; rw [HA.out, f2]; rfl)
    have F2 := Lib.hid f2
    clear hr f1 f2
    go_enter Try.func17, Try.ntmps17
    go_wp2_with fail
    clear b0 b1 b2
    refine (c_impl_IsFinite_b h _ HH.out F1.out).mono ?_; rintro e w1 ⟨rfl, q1, rfl⟩
    obtain ⟨b0, b1, b2⟩ := (BX.out.on (Ext.drewN _ q1)).three
    go_wp2_with fail
    clear b0 b1 b2
    refine (c_impl_IsFinite_b s _ HS.out F2.out).mono ?_; rintro e w2 ⟨rfl, q2, rfl⟩
    go_wp2
    go_ret
    exact ⟨retB_d (by rw [HR.out]), by have := X0.out; (repeat (first | assumption | exact Ext.refl _ | (with_reducible refine Ext.stepS ?_ (by first | exact Nat.le_refl _ | (simp; done) | (simp; omega)) _) | (with_reducible refine Ext.stepN ?_ _) | (with_reducible refine Ext.stepD ?_) | (with_reducible refine Ext.stepA ?_ _)))⟩
  have F2 := Lib.hid f2
  have F3 := Lib.hid (show inB 0 m 1000000 = r by rw [← hr]; unfold decB; rw [HA.out, f2]; rfl)
  clear hr f1 f2
  go_enter Try.func17, Try.ntmps17
  go_wp2_with fail
  clear b0 b1 b2
  refine (c_impl_IsFinite_b h _ HH.out F1.out).mono ?_; rintro e w1 ⟨rfl, q1, rfl⟩
  obtain ⟨b0, b1, b2⟩ := (BX.out.on (Ext.drewN _ q1)).three
  go_wp2_with fail
  clear b0 b1 b2
  refine (c_impl_IsFinite_b s _ HS.out F2.out).mono ?_; rintro e w2 ⟨rfl, q2, rfl⟩
  obtain ⟨b0, b1, b2⟩ := ((BX.out.on (Ext.drewN _ q1)).on (Ext.drewN _ q2)).three
  try simp only [World.drewN_drewN] at b0 b1 b2
  go_wp2_with fail
  clear b0 b1 b2
  refine (c_impl_isTime_d m _ F3.out).mono ?_; rintro e w3 ⟨rfl, rfl⟩
  go_wp2
  go_ret
  exact ⟨rfl, by have := X0.out; (repeat (first | assumption | exact Ext.refl _ | (with_reducible refine Ext.stepS ?_ (by first | exact Nat.le_refl _ | (simp; done) | (simp; omega)) _) | (with_reducible refine Ext.stepN ?_ _) | (with_reducible refine Ext.stepD ?_) | (with_reducible refine Ext.stepA ?_ _)))⟩
set_option maxHeartbeats 1000000 in
theorem c_spec_l06Decay (qb h s : Nat) (m : Int) (w : World) {r : Bool} (hr : decB h s m = r) (hb : Box w qb 26 #[.float .f32 h, .float .f32 s, .int .i64 m]) :
    Calls Try.prog 53 #[.pointer (some ⟨qb, 0, none⟩)] w fun e w' => e = .returned (.bool r) ∧ Ext w w' := by
  have BX := Lib.hid hb
  have X0 := Lib.hid (Ext.refl w)
  obtain ⟨b0, b1, b2⟩ := hb.three
  clear hb
  cases f1 : aboveB h
  · have HR := Lib.hid (show r = false by rw [← hr]; unfold decB; rw [f1]; rfl)
    have F1 := Lib.hid f1
    clear hr f1
    go_enter Try.func53, Try.ntmps53
    go_wp2_with fail
    clear b0 b1 b2
    refine (c_spec_l02Above h _ F1.out).mono ?_; rintro e w1 ⟨rfl, q1, rfl⟩
    go_wp2
    go_ret
    exact ⟨retB_d (by rw [HR.out]), by have := X0.out; (repeat (first | assumption | exact Ext.refl _ | (with_reducible refine Ext.stepS ?_ (by first | exact Nat.le_refl _ | (simp; done) | (simp; omega)) _) | (with_reducible refine Ext.stepN ?_ _) | (with_reducible refine Ext.stepD ?_) | (with_reducible refine Ext.stepA ?_ _)))⟩
  have F1 := Lib.hid f1
  have HA := Lib.hid (show aboveB h = true by exact f1)
  cases f2 : isFin .f32 s
  · have HR := Lib.hid (show r = false by rw [← hr]; unfold decB; rw [HA.out, f2]; rfl)
    have F2 := Lib.hid f2
    clear hr f1 f2
    go_enter Try.func53, Try.ntmps53
    go_wp2_with fail
    clear b0 b1 b2
    refine (c_spec_l02Above h _ F1.out).mono ?_; rintro e w1 ⟨rfl, q1, rfl⟩
    obtain ⟨b0, b1, b2⟩ := (BX.out.on (Ext.drewN _ q1)).three
    go_wp2_with fail
    clear b0 b1 b2
    refine (c_spec_l01Finite_b s _ F2.out).mono ?_; rintro e w2 ⟨rfl, q2, rfl⟩
    go_wp2
    go_ret
    exact ⟨retB_d (by rw [HR.out]), by have := X0.out; (repeat (first | assumption | exact Ext.refl _ | (with_reducible refine Ext.stepS ?_ (by first | exact Nat.le_refl _ | (simp; done) | (simp; omega)) _) | (with_reducible refine Ext.stepN ?_ _) | (with_reducible refine Ext.stepD ?_) | (with_reducible refine Ext.stepA ?_ _)))⟩
  have F2 := Lib.hid f2
  have F3 := Lib.hid (show inB 0 m 1000000 = r by rw [← hr]; unfold decB; rw [HA.out, f2]; rfl)
  clear hr f1 f2
  go_enter Try.func53, Try.ntmps53
  go_wp2_with fail
  clear b0 b1 b2
  refine (c_spec_l02Above h _ F1.out).mono ?_; rintro e w1 ⟨rfl, q1, rfl⟩
  obtain ⟨b0, b1, b2⟩ := (BX.out.on (Ext.drewN _ q1)).three
  go_wp2_with fail
  clear b0 b1 b2
  refine (c_spec_l01Finite_b s _ F2.out).mono ?_; rintro e w2 ⟨rfl, q2, rfl⟩
  obtain ⟨b0, b1, b2⟩ := ((BX.out.on (Ext.drewN _ q1)).on (Ext.drewN _ q2)).three
  try simp only [World.drewN_drewN] at b0 b1 b2
  go_wp2_with fail
  clear b0 b1 b2
  refine (c_spec_l06Time_d m _ F3.out).mono ?_; rintro e w3 ⟨rfl, rfl⟩
  go_wp2
  go_ret
  exact ⟨rfl, by have := X0.out; (repeat (first | assumption | exact Ext.refl _ | (with_reducible refine Ext.stepS ?_ (by first | exact Nat.le_refl _ | (simp; done) | (simp; omega)) _) | (with_reducible refine Ext.stepN ?_ _) | (with_reducible refine Ext.stepD ?_) | (with_reducible refine Ext.stepA ?_ _)))⟩
theorem c_spec_ValidDecay (h s : Nat) (m : Int) (w : World) {r : Bool} (hr : decB h s m = r) :
    Calls Try.prog 15 #[.agg #[.float .f32 h, .float .f32 s, .int .i64 m]] w fun e w' => e = .returned (.bool r) ∧ Ext w w' := by
  have HR := Lib.hid hr
  clear hr
  go_enter Try.func15, Try.ntmps15
  go_wp2_with (go_at_call 53; refine (c_spec_l06Decay _ h s m _ HR.out (Box.alloc _ _ _)).mono ?_; rintro e w' ⟨rfl, x'⟩)
  go_ret
  exact ⟨rfl, (Ext.alloc _ _).trans x'⟩
set_option maxHeartbeats 1000000 in
theorem c_impl_SameDecay (h s : Nat) (m : Int) (h' s' : Nat) (m' : Int) (w : World) {r : Bool} (hr : sameDB h s m h' s' m' = r) (hh : h < 4294967296) (hs : s < 4294967296) (hh' : h' < 4294967296) (hs' : s' < 4294967296) :
    Calls Try.prog 19 #[.agg #[.float .f32 h, .float .f32 s, .int .i64 m], .agg #[.float .f32 h', .float .f32 s', .int .i64 m']] w fun e w' => e = .returned (.bool r) ∧ Ext w w' := by
  have HH := Lib.hid hh
  have HS := Lib.hid hs
  have HH' := Lib.hid hh'
  have HS' := Lib.hid hs'
  have BX := Lib.hid ((Box.alloc w #[.float .f32 h, .float .f32 s, .int .i64 m] 26).past (.cells #[.float .f32 h', .float .f32 s', .int .i64 m'] 26))
  have BY := Lib.hid (Box.alloc_at (w.alloc (.cells #[.float .f32 h, .float .f32 s, .int .i64 m] 26)) #[.float .f32 h', .float .f32 s', .int .i64 m'] 26 (b := w.heap.size + 1) (by simp))
  have X0 := Lib.hid (((Ext.refl w).stepA (.cells #[.float .f32 h, .float .f32 s, .int .i64 m] 26)).stepA (.cells #[.float .f32 h', .float .f32 s', .int .i64 m'] 26))
  obtain ⟨b0, b1, b2⟩ := BX.out.three
  obtain ⟨d0, d1, d2⟩ := BY.out.three
  clear hh hs hh' hs'
  by_cases hm : m = m'
  rotate_left
  · have HR := Lib.hid (show r = false by rw [← hr]; unfold sameDB; rw [decide_eq_false hm]; rfl)
    have e1 : (m == m') = false := by simpa using hm
    clear hr
    go_enter Try.func19, Try.ntmps19
    go_wp2
    go_ret
    exact ⟨retB_d (by rw [HR.out]), X0.out⟩
  subst hm
  have e1 : (m == m) = true := by simp
  cases h1 : sameN h h'
  · have HR := Lib.hid (show r = false by rw [← hr]; unfold sameDB; rw [h1]; simp)
    have H1 := Lib.hid h1
    clear hr h1
    go_enter Try.func19, Try.ntmps19
    go_wp2_with fail
    clear b0 b1 b2 d0 d1 d2
    refine (c_impl_SameNumber_b h h' _ H1.out HH.out HH'.out).mono ?_; rintro e w1 ⟨rfl, q1, rfl⟩
    go_wp2
    go_ret
    exact ⟨retB_d (by rw [HR.out]), by have := X0.out; (repeat (first | assumption | exact Ext.refl _ | (with_reducible refine Ext.stepS ?_ (by first | exact Nat.le_refl _ | (simp; done) | (simp; omega)) _) | (with_reducible refine Ext.stepN ?_ _) | (with_reducible refine Ext.stepD ?_) | (with_reducible refine Ext.stepA ?_ _)))⟩
  have H1 := Lib.hid h1
  have H2 := Lib.hid (show sameN s s' = r by rw [← hr]; unfold sameDB; rw [h1]; simp)
  clear hr h1
  go_enter Try.func19, Try.ntmps19
  go_wp2_with fail
  clear b0 b1 b2 d0 d1 d2
  refine (c_impl_SameNumber_b h h' _ H1.out HH.out HH'.out).mono ?_; rintro e w1 ⟨rfl, q1, rfl⟩
  obtain ⟨b0, b1, b2⟩ := (BX.out.on (Ext.drewN _ q1)).three
  obtain ⟨d0, d1, d2⟩ := (BY.out.on (Ext.drewN _ q1)).three
  go_wp2_with fail
  clear b0 b1 b2 d0 d1 d2
  refine (c_impl_SameNumber_b s s' _ H2.out HS.out HS'.out).mono ?_; rintro e w2 ⟨rfl, q2, rfl⟩
  go_wp2
  go_ret
  exact ⟨rfl, by have := X0.out; (repeat (first | assumption | exact Ext.refl _ | (with_reducible refine Ext.stepS ?_ (by first | exact Nat.le_refl _ | (simp; done) | (simp; omega)) _) | (with_reducible refine Ext.stepN ?_ _) | (with_reducible refine Ext.stepD ?_) | (with_reducible refine Ext.stepA ?_ _)))⟩
set_option maxHeartbeats 1000000 in
theorem c_spec_SameDecay (h s : Nat) (m : Int) (h' s' : Nat) (m' : Int) (w : World) {r : Bool} (hr : sameDB h s m h' s' m' = r) (hh : h < 4294967296) (hs : s < 4294967296) (hh' : h' < 4294967296) (hs' : s' < 4294967296) :
    Calls Try.prog 18 #[.agg #[.float .f32 h, .float .f32 s, .int .i64 m], .agg #[.float .f32 h', .float .f32 s', .int .i64 m']] w fun e w' => e = .returned (.bool r) ∧ Ext w w' := by
  have HH := Lib.hid hh
  have HS := Lib.hid hs
  have HH' := Lib.hid hh'
  have HS' := Lib.hid hs'
  have BX := Lib.hid ((Box.alloc w #[.float .f32 h, .float .f32 s, .int .i64 m] 26).past (.cells #[.float .f32 h', .float .f32 s', .int .i64 m'] 26))
  have BY := Lib.hid (Box.alloc_at (w.alloc (.cells #[.float .f32 h, .float .f32 s, .int .i64 m] 26)) #[.float .f32 h', .float .f32 s', .int .i64 m'] 26 (b := w.heap.size + 1) (by simp))
  have X0 := Lib.hid (((Ext.refl w).stepA (.cells #[.float .f32 h, .float .f32 s, .int .i64 m] 26)).stepA (.cells #[.float .f32 h', .float .f32 s', .int .i64 m'] 26))
  obtain ⟨b0, b1, b2⟩ := BX.out.three
  obtain ⟨d0, d1, d2⟩ := BY.out.three
  clear hh hs hh' hs'
  by_cases hm : m = m'
  rotate_left
  · have HR := Lib.hid (show r = false by rw [← hr]; unfold sameDB; rw [decide_eq_false hm]; rfl)
    have e1 : (m == m') = false := by simpa using hm
    clear hr
    go_enter Try.func18, Try.ntmps18
    go_wp2
    go_ret
    exact ⟨retB_d (by rw [HR.out]), X0.out⟩
  subst hm
  have e1 : (m == m) = true := by simp
  cases h1 : sameN h h'
  · have HR := Lib.hid (show r = false by rw [← hr]; unfold sameDB; rw [h1]; simp)
    have H1 := Lib.hid h1
    clear hr h1
    go_enter Try.func18, Try.ntmps18
    go_wp2_with fail
    clear b0 b1 b2 d0 d1 d2
    refine (c_spec_l01Same_b h h' _ H1.out HH.out HH'.out).mono ?_; rintro e w1 ⟨rfl, q1, rfl⟩
    go_wp2
    go_ret
    exact ⟨retB_d (by rw [HR.out]), by have := X0.out; (repeat (first | assumption | exact Ext.refl _ | (with_reducible refine Ext.stepS ?_ (by first | exact Nat.le_refl _ | (simp; done) | (simp; omega)) _) | (with_reducible refine Ext.stepN ?_ _) | (with_reducible refine Ext.stepD ?_) | (with_reducible refine Ext.stepA ?_ _)))⟩
  have H1 := Lib.hid h1
  have H2 := Lib.hid (show sameN s s' = r by rw [← hr]; unfold sameDB; rw [h1]; simp)
  clear hr h1
  go_enter Try.func18, Try.ntmps18
  go_wp2_with fail
  clear b0 b1 b2 d0 d1 d2
  refine (c_spec_l01Same_b h h' _ H1.out HH.out HH'.out).mono ?_; rintro e w1 ⟨rfl, q1, rfl⟩
  obtain ⟨b0, b1, b2⟩ := (BX.out.on (Ext.drewN _ q1)).three
  obtain ⟨d0, d1, d2⟩ := (BY.out.on (Ext.drewN _ q1)).three
  go_wp2_with fail
  clear b0 b1 b2 d0 d1 d2
  refine (c_spec_l01Same_b s s' _ H2.out HS.out HS'.out).mono ?_; rintro e w2 ⟨rfl, q2, rfl⟩
  go_wp2
  go_ret
  exact ⟨rfl, by have := X0.out; (repeat (first | assumption | exact Ext.refl _ | (with_reducible refine Ext.stepS ?_ (by first | exact Nat.le_refl _ | (simp; done) | (simp; omega)) _) | (with_reducible refine Ext.stepN ?_ _) | (with_reducible refine Ext.stepD ?_) | (with_reducible refine Ext.stepA ?_ _)))⟩
end Go.Proofs.Ytmlnnnagbkknhab
