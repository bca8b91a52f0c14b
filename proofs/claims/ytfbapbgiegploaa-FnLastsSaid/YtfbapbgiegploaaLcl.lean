/- Cells: what the laws' helpers answer. -/
import Derived.Test.YtfbapbgiegploaaCis3
namespace Go.Proofs.Ytfbapbgiegploaa
open Go.ChangeShapes Go.WideShapes Go.ChangeAt Go.RowKit
set_option linter.unusedVariables false
theorem Touch.stepS {lo hi : Nat} {w u : World} (h : Touch lo hi w u) {a : Addr} (h1 : lo ≤ a.block) (h2 : a.block < hi) (v : Value) : Touch lo hi w (u.setCell a v) := h.trans (Touch.setCell _ h1 h2 _)
theorem Touch.stepA {lo hi : Nat} {w u : World} (h : Touch lo hi w u) (o : Obj) : Touch lo hi w (u.alloc o) := h.trans (Touch.of_ext (Ext.alloc _ _) _ _)
theorem Touch.stepN {lo hi : Nat} {w u : World} (h : Touch lo hi w u) (n : Nat) : Touch lo hi w (u.drewN n) := h.trans (Touch.of_ext (Ext.drewN _ _) _ _)
theorem own_touch {t : TypeId} {u w' : World} {lo hi lo' hi' lo2 n c : Nat} {a : Option Addr} {vs : List Value} (h : Own t u lo hi a n c vs) (T : Touch lo' hi' u w') (hd : hi ≤ lo' ∨ hi' ≤ lo) (h1 : lo2 ≤ lo) (h2 : hi ≤ u.heap.size) : Own t w' lo2 w'.heap.size a n c vs :=
  (h.beside T hd).wide h1 (Nat.le_trans h2 T.size)
/-- marks in cells -/
def RetMarkC (t : TypeId) (lo hi : Nat) (a : Option Addr) (n c k : Nat) (w : World) (e : Ending) (w' : World) : Prop := RetMark t lo hi a n c k w e w'
theorem c_szI_ok (a : Option Addr) (n cap l : Nat) (w : World) (h : n ≤ l) (hl : l ≤ 1048576) : Calls Try.prog 172 #[.slice a n cap, .int .i64 l] w fun e w' => e = .returned (.int .i64 ((l - n : Nat) : Int)) ∧ w' = w := by
  have e : ((l - n : Nat) : Int) = (l : Int) - (n : Int) := by omega
  have h' : (n : Int) ≤ (l : Int) := by omega
  have hl' : (l : Int) ≤ 1048576 := by omega
  have E := Lib.hid e
  clear e
  go_enter Try.func172, Try.ntmps172
  go_wp2
  go_ret
  exact ⟨by rw [E.out]; rfl, rfl⟩
theorem c_szI_no (a : Option Addr) (n cap l : Nat) (w : World) (h : l < n) (hl : l ≤ 1048576) (hn : n ≤ maxLen) : Calls Try.prog 172 #[.slice a n cap, .int .i64 l] w fun e w' => e = .returned (.int .i64 (-1)) ∧ w' = w := by
  unfold maxLen at hn
  have h' : (l : Int) < (n : Int) := by omega
  have hl' : (l : Int) ≤ 1048576 := by omega
  go_enter Try.func172, Try.ntmps172
  go_wp2
  go_ret
  exact ⟨rfl, rfl⟩
theorem c_szC_ok (W D S : Int) (a : Option Addr) (n cap l : Nat) (w : World) (h : n ≤ l) (hl : l ≤ 1048576) : Calls Try.prog 70 #[.agg #[.int .i64 W, .int .i64 D, .int .i64 S, .slice a n cap], .int .i64 l] w fun e w' => e = .returned (.int .i64 ((l - n : Nat) : Int)) ∧ Ext w w' := by
  have h2 : (0 : Int) ≤ ((l - n : Nat) : Int) := by omega
  obtain ⟨r, hr⟩ : ∃ r : Nat, l - n = r := ⟨_, rfl⟩
  rw [hr] at h2 ⊢
  have R := Lib.hid hr
  clear hr
  go_enter Try.func70, Try.ntmps70
  go_wp2_with (go_at_call 172; refine (c_szI_ok _ _ _ l _ h hl).mono ?_; rw [R.out]; rintro e w' ⟨rfl, rfl⟩)
  go_ret
  exact ⟨rfl, (Ext.refl _).stepA _⟩
theorem c_szC_no (W D S : Int) (a : Option Addr) (n cap l : Nat) (w : World) (h : l < n) (hl : l ≤ 1048576) (hn : n ≤ maxLen) : Calls Try.prog 70 #[.agg #[.int .i64 W, .int .i64 D, .int .i64 S, .slice a n cap], .int .i64 l] w fun e w' => e = .returned (.int .i64 (-1)) ∧ Ext w w' := by
  go_enter Try.func70, Try.ntmps70
  go_wp2_with (go_at_call 172; refine (c_szI_no _ _ _ l _ h hl hn).mono ?_; rintro e w' ⟨rfl, rfl⟩)
  go_ret
  exact ⟨rfl, (Ext.refl _).stepA _⟩
set_option maxHeartbeats 1000000 in
theorem c_toC (W D S : Int) (a : Option Addr) (n cap : Nat) (zs : List Int) (w : World) (hl : n ≤ 1048576) (h : Reads w a n (ints zs)) :
    Calls Try.prog 72 #[.agg #[.int .i64 W, .int .i64 D, .int .i64 S, .slice a n cap]] w (RetC 2 ⟨W, D, S, zs⟩ w) := by
  have hz := h.int.1
  subst hz
  have H := Lib.hid h
  clear h
  have BR := Lib.hid (Box.alloc_at (w.alloc (.cells #[.int .i64 W, .int .i64 D, .int .i64 S, .slice a zs.length cap] 90)) #[.int .i64 0, .int .i64 0, .int .i64 0, .slice none 0 0] 57 (b := w.heap.size + 1) (by simp))
  have BO := Lib.hid (Box.alloc_at ((w.alloc (.cells #[.int .i64 W, .int .i64 D, .int .i64 S, .slice a zs.length cap] 90)).alloc (.cells #[.int .i64 0, .int .i64 0, .int .i64 0, .slice none 0 0] 57)) #[.int .i64 W, .int .i64 D, .int .i64 S, .slice none 0 0] 57 (b := w.heap.size + 2) (by simp))
  go_enter Try.func72, Try.ntmps72
  go_wp2_with fail
  refine (c_toI _ _ _ zs _ hl (H.out.on (((Ext.refl w).stepA _ |>.stepA _) |>.stepA _))).mono ?_; rintro e u1 ⟨a', c', rfl, o', x1⟩
  have BO1 := Lib.hid (BO.out.on x1)
  have BR1 := Lib.hid ((BR.out.past _).on x1)
  have O := Lib.hid o'
  have X := (((Ext.refl w).stepA _ |>.stepA _) |>.stepA _).trans x1
  obtain ⟨b0, b1, b2, b3⟩ := BO1.out.four
  obtain ⟨f0, f1, f2, f3⟩ := BO1.out.free
  obtain ⟨r0, r1, r2, r3⟩ := BR1.out.four
  obtain ⟨g0, g1, g2, g3⟩ := BR1.out.free
  have hs1 := x1.size
  simp at hs1
  clear x1 o'
  go_wp2
  refine bodyPost_ret (v := .agg #[.int .i64 W, .int .i64 D, .int .i64 S, .slice a' zs.length c']) (by simp [results, Try.results72, go_sem, r0, r1, r2, r3]) rfl ⟨a', c', rfl, ?_, ?_⟩
  · refine own_touch O.out (lo' := w.heap.size + 1) (hi' := w.heap.size + 3) ?_ (by first | omega | (simp; done) | (simp; omega)) (by first | omega | (simp; done) | (simp; omega)) (Nat.le_refl _)
    (repeat (first | assumption | exact Touch.refl _ _ _ | (with_reducible refine Touch.stepS ?_ (by first | exact Nat.le_refl _ | (simp; done) | (simp; omega)) (by first | (simp; done) | (simp; omega)) _) | (with_reducible refine Touch.stepN ?_ _) | (with_reducible refine Touch.stepA ?_ _)))
  · (repeat (first | assumption | exact Ext.refl _ | (with_reducible refine Ext.stepS ?_ (by first | exact Nat.le_refl _ | (simp; done) | (simp; omega)) _) | (with_reducible refine Ext.stepN ?_ _) | (with_reducible refine Ext.stepD ?_) | (with_reducible refine Ext.stepA ?_ _)))
theorem c_eqC (W D S : Int) (a a' : Option Addr) (n cap cap' : Nat) (zs : List Int) (w : World) (hm : n ≤ 1048576) (h : Reads w a n (ints zs)) (h' : Reads w a' n (ints zs)) :
    Calls Try.prog 74 #[.agg #[.int .i64 W, .int .i64 D, .int .i64 S, .slice a n cap], .agg #[.int .i64 W, .int .i64 D, .int .i64 S, .slice a' n cap']] w fun e w' => e = .returned (.bool true) ∧ Ext w w' := by
  have H := Lib.hid h
  have H' := Lib.hid h'
  clear h h'
  go_enter Try.func74, Try.ntmps74
  go_wp2_with fail
  refine (c_eqI_E _ _ _ _ _ zs _ hm (H.out.on ((Ext.refl w).stepA _ |>.stepA _)) (H'.out.on ((Ext.refl w).stepA _ |>.stepA _))).mono ?_; rintro e u1 ⟨rfl, x1⟩
  have X := ((Ext.refl w).stepA _ |>.stepA _).trans x1
  clear x1
  go_wp2
  go_ret
  exact ⟨rfl, X⟩
end Go.Proofs.Ytfbapbgiegploaa
