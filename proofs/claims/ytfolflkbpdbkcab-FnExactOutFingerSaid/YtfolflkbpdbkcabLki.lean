/- Structs of integers and a slice: what the laws' helpers answer. -/
import Derived.Test.YtfolflkbpdbkcabLcl
import Derived.Test.YtfolflkbpdbkcabKin
namespace Go.Proofs.Ytfolflkbpdbkcab
open Go.ChangeShapes Go.WideShapes Go.ChangeAt Go.RowKit
set_option linter.unusedVariables false
theorem c_szT_ok (R S : Int) (a : Option Addr) (n cap l : Nat) (w : World) (h : n ≤ l) (hl : l ≤ 1048576) : Calls Try.prog 15 #[.agg #[.int .i64 R, .int .i64 S, .slice a n cap], .int .i64 l] w fun e w' => e = .returned (.int .i64 ((l - n : Nat) : Int)) ∧ Ext w w' := by
  have h2 : (0 : Int) ≤ ((l - n : Nat) : Int) := by omega
  obtain ⟨r, hr⟩ : ∃ r : Nat, l - n = r := ⟨_, rfl⟩
  rw [hr] at h2 ⊢
  have R' := Lib.hid hr
  clear hr
  go_enter Try.func15, Try.ntmps15
  go_wp2_with (go_at_call 55; refine (c_szI_ok _ _ _ l _ h hl).mono ?_; rw [R'.out]; rintro e w' ⟨rfl, rfl⟩)
  go_ret
  exact ⟨rfl, (Ext.refl _).stepA _⟩
theorem c_szT_no (R S : Int) (a : Option Addr) (n cap l : Nat) (w : World) (h : l < n) (hl : l ≤ 1048576) (hn : n ≤ maxLen) : Calls Try.prog 15 #[.agg #[.int .i64 R, .int .i64 S, .slice a n cap], .int .i64 l] w fun e w' => e = .returned (.int .i64 (-1)) ∧ Ext w w' := by
  go_enter Try.func15, Try.ntmps15
  go_wp2_with (go_at_call 55; refine (c_szI_no _ _ _ l _ h hl hn).mono ?_; rintro e w' ⟨rfl, rfl⟩)
  go_ret
  exact ⟨rfl, (Ext.refl _).stepA _⟩
set_option maxHeartbeats 1000000 in
theorem c_toT (R S : Int) (a : Option Addr) (n cap : Nat) (zs : List Int) (w : World) (hl : n ≤ 1048576) (h : Reads w a n (ints zs)) :
    Calls Try.prog 17 #[.agg #[.int .i64 R, .int .i64 S, .slice a n cap]] w (RetKT 2 ⟨R, S, zs⟩ w) := by
  have hz := h.int.1
  subst hz
  have H := Lib.hid h
  clear h
  have BR := Lib.hid (Box.alloc_at (w.alloc (.cells #[.int .i64 R, .int .i64 S, .slice a zs.length cap] 24)) #[.int .i64 0, .int .i64 0, .slice none 0 0] 27 (b := w.heap.size + 1) (by simp))
  have BO := Lib.hid (Box.alloc_at ((w.alloc (.cells #[.int .i64 R, .int .i64 S, .slice a zs.length cap] 24)).alloc (.cells #[.int .i64 0, .int .i64 0, .slice none 0 0] 27)) #[.int .i64 R, .int .i64 S, .slice none 0 0] 27 (b := w.heap.size + 2) (by simp))
  go_enter Try.func17, Try.ntmps17
  go_wp2_with fail
  refine (c_toI _ _ _ zs _ hl (H.out.on (((Ext.refl w).stepA _ |>.stepA _) |>.stepA _))).mono ?_; rintro e u1 ⟨a', c', rfl, o', x1⟩
  have BO1 := Lib.hid (BO.out.on x1)
  have BR1 := Lib.hid ((BR.out.past _).on x1)
  have O := Lib.hid o'
  have X := (((Ext.refl w).stepA _ |>.stepA _) |>.stepA _).trans x1
  obtain ⟨b0, b1, b2⟩ := BO1.out.three
  obtain ⟨f0, f1, f2, -⟩ := BO1.out.free
  obtain ⟨r0, r1, r2⟩ := BR1.out.three
  obtain ⟨g0, g1, g2, -⟩ := BR1.out.free
  have hs1 := x1.size
  simp at hs1
  clear x1 o'
  go_wp2
  refine bodyPost_ret (v := .agg #[.int .i64 R, .int .i64 S, .slice a' zs.length c']) (by simp [results, Try.results17, go_sem, r0, r1, r2]) rfl ⟨a', c', rfl, ?_, ?_⟩
  · refine own_touch O.out (lo' := w.heap.size + 1) (hi' := w.heap.size + 3) ?_ (by first | omega | (simp; done) | (simp; omega)) (by first | omega | (simp; done) | (simp; omega)) (Nat.le_refl _)
    (repeat (first | assumption | exact Touch.refl _ _ _ | (with_reducible refine Touch.stepS ?_ (by first | exact Nat.le_refl _ | (simp; done) | (simp; omega)) (by first | (simp; done) | (simp; omega)) _) | (with_reducible refine Touch.stepN ?_ _) | (with_reducible refine Touch.stepA ?_ _)))
  · (repeat (first | assumption | exact Ext.refl _ | (with_reducible refine Ext.stepS ?_ (by first | exact Nat.le_refl _ | (simp; done) | (simp; omega)) _) | (with_reducible refine Ext.stepN ?_ _) | (with_reducible refine Ext.stepD ?_) | (with_reducible refine Ext.stepA ?_ _)))
theorem c_eqT (R S : Int) (a a' : Option Addr) (n cap cap' : Nat) (zs : List Int) (w : World) (hm : n ≤ 1048576) (h : Reads w a n (ints zs)) (h' : Reads w a' n (ints zs)) :
    Calls Try.prog 19 #[.agg #[.int .i64 R, .int .i64 S, .slice a n cap], .agg #[.int .i64 R, .int .i64 S, .slice a' n cap']] w fun e w' => e = .returned (.bool true) ∧ Ext w w' := by
  have H := Lib.hid h
  have H' := Lib.hid h'
  clear h h'
  go_enter Try.func19, Try.ntmps19
  go_wp2_with fail
  refine (c_eqI_E _ _ _ _ _ zs _ hm (H.out.on ((Ext.refl w).stepA _ |>.stepA _)) (H'.out.on ((Ext.refl w).stepA _ |>.stepA _))).mono ?_; rintro e u1 ⟨rfl, x1⟩
  have X := ((Ext.refl w).stepA _ |>.stepA _).trans x1
  clear x1
  go_wp2
  go_ret
  exact ⟨rfl, X⟩
theorem c_markT (R S : Int) (lo hi : Nat) (a : Option Addr) (n cap s : Nat) (vs : List Value) (w : World) (hn : n ≤ 1048576) (hs : s ≤ 1073741824) (h : Own 2 w lo hi a n cap vs) (hh : hi ≤ w.heap.size) :
    Calls Try.prog 22 #[.agg #[.int .i64 R, .int .i64 S, .slice a n cap], .int .i64 s] w (RetMark 2 lo hi a n cap s w) := by
  have H := Lib.hid h
  clear h
  go_enter Try.func22, Try.ntmps22
  go_wp2_with fail
  refine (c_markI lo hi _ _ _ s vs _ hn hs (H.out.on (Ext.alloc _ _))).mono ?_; rintro e u1 ⟨rfl, o', t'⟩
  have O := Lib.hid o'
  have T := Lib.hid ((Touch.of_ext (Ext.alloc _ _) _ _).trans t')
  clear o' t'
  go_wp2
  go_ret
  exact ⟨rfl, O.out, T.out⟩
theorem c_heldT (R S : Int) (a : Option Addr) (n cap s : Nat) (w : World) (hn : n ≤ 1048576) (hs : s ≤ 1073741824) (h : Reads w a n (ints (marks s n))) :
    Calls Try.prog 23 #[.agg #[.int .i64 R, .int .i64 S, .slice a n cap], .int .i64 s] w fun e w' => e = .returned (.int .i64 ((s + n : Nat) : Int)) ∧ Ext w w' := by
  have H := Lib.hid h
  clear h
  go_enter Try.func23, Try.ntmps23
  go_wp2_with fail
  refine (c_heldI _ _ _ s _ hn hs (H.out.on (Ext.alloc _ _))).mono ?_; rintro e u1 ⟨rfl, rfl⟩
  go_wp2
  go_ret
  exact ⟨rfl, Ext.alloc _ _⟩

theorem c_szF_ok (S : Int) (a : Option Addr) (n cap l : Nat) (w : World) (h : n ≤ l) (hl : l ≤ 1048576) : Calls Try.prog 28 #[.agg #[.int .i64 S, .slice a n cap], .int .i64 l] w fun e w' => e = .returned (.int .i64 ((l - n : Nat) : Int)) ∧ Ext w w' := by
  have h2 : (0 : Int) ≤ ((l - n : Nat) : Int) := by omega
  obtain ⟨r, hr⟩ : ∃ r : Nat, l - n = r := ⟨_, rfl⟩
  rw [hr] at h2 ⊢
  have R' := Lib.hid hr
  clear hr
  go_enter Try.func28, Try.ntmps28
  go_wp2_with (go_at_call 55; refine (c_szI_ok _ _ _ l _ h hl).mono ?_; rw [R'.out]; rintro e w' ⟨rfl, rfl⟩)
  go_ret
  exact ⟨rfl, (Ext.refl _).stepA _⟩
theorem c_szF_no (S : Int) (a : Option Addr) (n cap l : Nat) (w : World) (h : l < n) (hl : l ≤ 1048576) (hn : n ≤ maxLen) : Calls Try.prog 28 #[.agg #[.int .i64 S, .slice a n cap], .int .i64 l] w fun e w' => e = .returned (.int .i64 (-1)) ∧ Ext w w' := by
  go_enter Try.func28, Try.ntmps28
  go_wp2_with (go_at_call 55; refine (c_szI_no _ _ _ l _ h hl hn).mono ?_; rintro e w' ⟨rfl, rfl⟩)
  go_ret
  exact ⟨rfl, (Ext.refl _).stepA _⟩
set_option maxHeartbeats 1000000 in
theorem c_toF (S : Int) (a : Option Addr) (n cap : Nat) (zs : List Int) (w : World) (hl : n ≤ 1048576) (h : Reads w a n (ints zs)) :
    Calls Try.prog 30 #[.agg #[.int .i64 S, .slice a n cap]] w (RetKF 2 ⟨S, zs⟩ w) := by
  have hz := h.int.1
  subst hz
  have H := Lib.hid h
  clear h
  have BR := Lib.hid (Box.alloc_at (w.alloc (.cells #[.int .i64 S, .slice a zs.length cap] 38)) #[.int .i64 0, .slice none 0 0] 41 (b := w.heap.size + 1) (by simp))
  have BO := Lib.hid (Box.alloc_at ((w.alloc (.cells #[.int .i64 S, .slice a zs.length cap] 38)).alloc (.cells #[.int .i64 0, .slice none 0 0] 41)) #[.int .i64 S, .slice none 0 0] 41 (b := w.heap.size + 2) (by simp))
  go_enter Try.func30, Try.ntmps30
  go_wp2_with fail
  refine (c_toI _ _ _ zs _ hl (H.out.on (((Ext.refl w).stepA _ |>.stepA _) |>.stepA _))).mono ?_; rintro e u1 ⟨a', c', rfl, o', x1⟩
  have BO1 := Lib.hid (BO.out.on x1)
  have BR1 := Lib.hid ((BR.out.past _).on x1)
  have O := Lib.hid o'
  have X := (((Ext.refl w).stepA _ |>.stepA _) |>.stepA _).trans x1
  obtain ⟨b0, b1⟩ := BO1.out.two
  obtain ⟨f0, f1, -, -⟩ := BO1.out.free
  obtain ⟨r0, r1⟩ := BR1.out.two
  obtain ⟨g0, g1, -, -⟩ := BR1.out.free
  have hs1 := x1.size
  simp at hs1
  clear x1 o'
  go_wp2
  refine bodyPost_ret (v := .agg #[.int .i64 S, .slice a' zs.length c']) (by simp [results, Try.results30, go_sem, r0, r1]) rfl ⟨a', c', rfl, ?_, ?_⟩
  · refine own_touch O.out (lo' := w.heap.size + 1) (hi' := w.heap.size + 3) ?_ (by first | omega | (simp; done) | (simp; omega)) (by first | omega | (simp; done) | (simp; omega)) (Nat.le_refl _)
    (repeat (first | assumption | exact Touch.refl _ _ _ | (with_reducible refine Touch.stepS ?_ (by first | exact Nat.le_refl _ | (simp; done) | (simp; omega)) (by first | (simp; done) | (simp; omega)) _) | (with_reducible refine Touch.stepN ?_ _) | (with_reducible refine Touch.stepA ?_ _)))
  · (repeat (first | assumption | exact Ext.refl _ | (with_reducible refine Ext.stepS ?_ (by first | exact Nat.le_refl _ | (simp; done) | (simp; omega)) _) | (with_reducible refine Ext.stepN ?_ _) | (with_reducible refine Ext.stepD ?_) | (with_reducible refine Ext.stepA ?_ _)))
theorem c_eqF (S : Int) (a a' : Option Addr) (n cap cap' : Nat) (zs : List Int) (w : World) (hm : n ≤ 1048576) (h : Reads w a n (ints zs)) (h' : Reads w a' n (ints zs)) :
    Calls Try.prog 32 #[.agg #[.int .i64 S, .slice a n cap], .agg #[.int .i64 S, .slice a' n cap']] w fun e w' => e = .returned (.bool true) ∧ Ext w w' := by
  have H := Lib.hid h
  have H' := Lib.hid h'
  clear h h'
  go_enter Try.func32, Try.ntmps32
  go_wp2_with fail
  refine (c_eqI_E _ _ _ _ _ zs _ hm (H.out.on ((Ext.refl w).stepA _ |>.stepA _)) (H'.out.on ((Ext.refl w).stepA _ |>.stepA _))).mono ?_; rintro e u1 ⟨rfl, x1⟩
  have X := ((Ext.refl w).stepA _ |>.stepA _).trans x1
  clear x1
  go_wp2
  go_ret
  exact ⟨rfl, X⟩
theorem c_markF (S : Int) (lo hi : Nat) (a : Option Addr) (n cap s : Nat) (vs : List Value) (w : World) (hn : n ≤ 1048576) (hs : s ≤ 1073741824) (h : Own 2 w lo hi a n cap vs) (hh : hi ≤ w.heap.size) :
    Calls Try.prog 35 #[.agg #[.int .i64 S, .slice a n cap], .int .i64 s] w (RetMark 2 lo hi a n cap s w) := by
  have H := Lib.hid h
  clear h
  go_enter Try.func35, Try.ntmps35
  go_wp2_with fail
  refine (c_markI lo hi _ _ _ s vs _ hn hs (H.out.on (Ext.alloc _ _))).mono ?_; rintro e u1 ⟨rfl, o', t'⟩
  have O := Lib.hid o'
  have T := Lib.hid ((Touch.of_ext (Ext.alloc _ _) _ _).trans t')
  clear o' t'
  go_wp2
  go_ret
  exact ⟨rfl, O.out, T.out⟩
theorem c_heldF (S : Int) (a : Option Addr) (n cap s : Nat) (w : World) (hn : n ≤ 1048576) (hs : s ≤ 1073741824) (h : Reads w a n (ints (marks s n))) :
    Calls Try.prog 36 #[.agg #[.int .i64 S, .slice a n cap], .int .i64 s] w fun e w' => e = .returned (.int .i64 ((s + n : Nat) : Int)) ∧ Ext w w' := by
  have H := Lib.hid h
  clear h
  go_enter Try.func36, Try.ntmps36
  go_wp2_with fail
  refine (c_heldI _ _ _ s _ hn hs (H.out.on (Ext.alloc _ _))).mono ?_; rintro e u1 ⟨rfl, rfl⟩
  go_wp2
  go_ret
  exact ⟨rfl, Ext.alloc _ _⟩

theorem c_szO_ok (S : Int) (a : Option Addr) (n cap l : Nat) (w : World) (h : n ≤ l) (hl : l ≤ 1048576) : Calls Try.prog 41 #[.agg #[.int .i64 S, .slice a n cap], .int .i64 l] w fun e w' => e = .returned (.int .i64 ((l - n : Nat) : Int)) ∧ Ext w w' := by
  have h2 : (0 : Int) ≤ ((l - n : Nat) : Int) := by omega
  obtain ⟨r, hr⟩ : ∃ r : Nat, l - n = r := ⟨_, rfl⟩
  rw [hr] at h2 ⊢
  have R' := Lib.hid hr
  clear hr
  go_enter Try.func41, Try.ntmps41
  go_wp2_with (go_at_call 55; refine (c_szI_ok _ _ _ l _ h hl).mono ?_; rw [R'.out]; rintro e w' ⟨rfl, rfl⟩)
  go_ret
  exact ⟨rfl, (Ext.refl _).stepA _⟩
theorem c_szO_no (S : Int) (a : Option Addr) (n cap l : Nat) (w : World) (h : l < n) (hl : l ≤ 1048576) (hn : n ≤ maxLen) : Calls Try.prog 41 #[.agg #[.int .i64 S, .slice a n cap], .int .i64 l] w fun e w' => e = .returned (.int .i64 (-1)) ∧ Ext w w' := by
  go_enter Try.func41, Try.ntmps41
  go_wp2_with (go_at_call 55; refine (c_szI_no _ _ _ l _ h hl hn).mono ?_; rintro e w' ⟨rfl, rfl⟩)
  go_ret
  exact ⟨rfl, (Ext.refl _).stepA _⟩
set_option maxHeartbeats 1000000 in
theorem c_toO (S : Int) (a : Option Addr) (n cap : Nat) (zs : List Int) (w : World) (hl : n ≤ 1048576) (h : Reads w a n (ints zs)) :
    Calls Try.prog 43 #[.agg #[.int .i64 S, .slice a n cap]] w (RetKF 2 ⟨S, zs⟩ w) := by
  have hz := h.int.1
  subst hz
  have H := Lib.hid h
  clear h
  have BR := Lib.hid (Box.alloc_at (w.alloc (.cells #[.int .i64 S, .slice a zs.length cap] 51)) #[.int .i64 0, .slice none 0 0] 54 (b := w.heap.size + 1) (by simp))
  have BO := Lib.hid (Box.alloc_at ((w.alloc (.cells #[.int .i64 S, .slice a zs.length cap] 51)).alloc (.cells #[.int .i64 0, .slice none 0 0] 54)) #[.int .i64 S, .slice none 0 0] 54 (b := w.heap.size + 2) (by simp))
  go_enter Try.func43, Try.ntmps43
  go_wp2_with fail
  refine (c_toI _ _ _ zs _ hl (H.out.on (((Ext.refl w).stepA _ |>.stepA _) |>.stepA _))).mono ?_; rintro e u1 ⟨a', c', rfl, o', x1⟩
  have BO1 := Lib.hid (BO.out.on x1)
  have BR1 := Lib.hid ((BR.out.past _).on x1)
  have O := Lib.hid o'
  have X := (((Ext.refl w).stepA _ |>.stepA _) |>.stepA _).trans x1
  obtain ⟨b0, b1⟩ := BO1.out.two
  obtain ⟨f0, f1, -, -⟩ := BO1.out.free
  obtain ⟨r0, r1⟩ := BR1.out.two
  obtain ⟨g0, g1, -, -⟩ := BR1.out.free
  have hs1 := x1.size
  simp at hs1
  clear x1 o'
  go_wp2
  refine bodyPost_ret (v := .agg #[.int .i64 S, .slice a' zs.length c']) (by simp [results, Try.results43, go_sem, r0, r1]) rfl ⟨a', c', rfl, ?_, ?_⟩
  · refine own_touch O.out (lo' := w.heap.size + 1) (hi' := w.heap.size + 3) ?_ (by first | omega | (simp; done) | (simp; omega)) (by first | omega | (simp; done) | (simp; omega)) (Nat.le_refl _)
    (repeat (first | assumption | exact Touch.refl _ _ _ | (with_reducible refine Touch.stepS ?_ (by first | exact Nat.le_refl _ | (simp; done) | (simp; omega)) (by first | (simp; done) | (simp; omega)) _) | (with_reducible refine Touch.stepN ?_ _) | (with_reducible refine Touch.stepA ?_ _)))
  · (repeat (first | assumption | exact Ext.refl _ | (with_reducible refine Ext.stepS ?_ (by first | exact Nat.le_refl _ | (simp; done) | (simp; omega)) _) | (with_reducible refine Ext.stepN ?_ _) | (with_reducible refine Ext.stepD ?_) | (with_reducible refine Ext.stepA ?_ _)))
theorem c_eqO (S : Int) (a a' : Option Addr) (n cap cap' : Nat) (zs : List Int) (w : World) (hm : n ≤ 1048576) (h : Reads w a n (ints zs)) (h' : Reads w a' n (ints zs)) :
    Calls Try.prog 45 #[.agg #[.int .i64 S, .slice a n cap], .agg #[.int .i64 S, .slice a' n cap']] w fun e w' => e = .returned (.bool true) ∧ Ext w w' := by
  have H := Lib.hid h
  have H' := Lib.hid h'
  clear h h'
  go_enter Try.func45, Try.ntmps45
  go_wp2_with fail
  refine (c_eqI_E _ _ _ _ _ zs _ hm (H.out.on ((Ext.refl w).stepA _ |>.stepA _)) (H'.out.on ((Ext.refl w).stepA _ |>.stepA _))).mono ?_; rintro e u1 ⟨rfl, x1⟩
  have X := ((Ext.refl w).stepA _ |>.stepA _).trans x1
  clear x1
  go_wp2
  go_ret
  exact ⟨rfl, X⟩
theorem c_markO (S : Int) (lo hi : Nat) (a : Option Addr) (n cap s : Nat) (vs : List Value) (w : World) (hn : n ≤ 1048576) (hs : s ≤ 1073741824) (h : Own 2 w lo hi a n cap vs) (hh : hi ≤ w.heap.size) :
    Calls Try.prog 48 #[.agg #[.int .i64 S, .slice a n cap], .int .i64 s] w (RetMark 2 lo hi a n cap s w) := by
  have H := Lib.hid h
  clear h
  go_enter Try.func48, Try.ntmps48
  go_wp2_with fail
  refine (c_markI lo hi _ _ _ s vs _ hn hs (H.out.on (Ext.alloc _ _))).mono ?_; rintro e u1 ⟨rfl, o', t'⟩
  have O := Lib.hid o'
  have T := Lib.hid ((Touch.of_ext (Ext.alloc _ _) _ _).trans t')
  clear o' t'
  go_wp2
  go_ret
  exact ⟨rfl, O.out, T.out⟩
theorem c_heldO (S : Int) (a : Option Addr) (n cap s : Nat) (w : World) (hn : n ≤ 1048576) (hs : s ≤ 1073741824) (h : Reads w a n (ints (marks s n))) :
    Calls Try.prog 49 #[.agg #[.int .i64 S, .slice a n cap], .int .i64 s] w fun e w' => e = .returned (.int .i64 ((s + n : Nat) : Int)) ∧ Ext w w' := by
  have H := Lib.hid h
  clear h
  go_enter Try.func49, Try.ntmps49
  go_wp2_with fail
  refine (c_heldI _ _ _ s _ hn hs (H.out.on (Ext.alloc _ _))).mono ?_; rintro e u1 ⟨rfl, rfl⟩
  go_wp2
  go_ret
  exact ⟨rfl, Ext.alloc _ _⟩
end Go.Proofs.Ytfolflkbpdbkcab
