/- the products of rows, on the program's side. -/
import Derived.Test.YtjckikcndoobnaaCmg
import Derived.Deep.OwnRows
namespace Go.Proofs.Ytjckikcndoobnaa
open Go.ChangeShapes Go.WideShapes Go.ChangeAt Go.RowKit
set_option linter.unusedVariables false
def dotsB (W D S : Int) (zs : List Int) (W' D' S' : Int) (ys : List Int) : Bool := mergeB W D S zs W' D' S' ys && manyB 1000000 zs && manyB 1000000 ys
set_option maxHeartbeats 1000000 in
theorem c_impl_rowOf (m r : Nat) (D S : Int) (b off n cap : Nat) (w : World) (h1 : 1 ≤ m) (h2 : m ≤ 64) (hr : r ≤ 6) (hn : (r + 1) * m ≤ n) (hc : n ≤ cap) (hcm : cap ≤ maxLen) :
    Calls Try.prog 79 #[.agg #[.int .i64 m, .int .i64 D, .int .i64 S, .slice (some ⟨b, off, none⟩) n cap], .int .i64 r] w fun e w' => e = .returned (.slice (some ⟨b, off + r * m, none⟩) m m) ∧ Ext w w' := by
  unfold maxLen at hcm
  have f1 := wrap_mulN (i := r) (m := m) (by omega) h2
  have f2 : (r : Int) * (m : Int) = ((r * m : Nat) : Int) := by rw [Int.natCast_mul]
  have hpl : r * m ≤ 6 * 64 := Nat.mul_le_mul hr h2
  rw [Nat.add_mul, Nat.one_mul] at hn
  obtain ⟨p, hp⟩ : ∃ p, r * m = p := ⟨_, rfl⟩
  rw [hp] at f1 f2 hpl hn ⊢
  have g1 : (0 : Int) ≤ (p : Int) := by omega
  have g2 : (p : Int) + (m : Int) ≤ (cap : Int) := by omega
  have g3 : ((p : Int) + (m : Int)).toNat = p + m := by omega
  have g4 : (0 : Int) ≤ (p : Int) + (m : Int) := by omega
  have g5 : (p : Int) ≤ (p : Int) + (m : Int) := by omega
  have g6 : p ≤ p + m := by omega
  have g7 : p + m ≤ cap := by omega
  have g8 : ¬ p + m - p = 0 := by omega
  have g9 : p + m - p = m := by omega
  clear hp
  go_enter Try.func79, Try.ntmps79
  go_wp2
  go_ret
  exact ⟨rfl, by (repeat (first | assumption | exact Ext.refl _ | (with_reducible refine Ext.stepS ?_ (by first | exact Nat.le_refl _ | (simp; done) | (simp; omega)) _) | (with_reducible refine Ext.stepN ?_ _) | (with_reducible refine Ext.stepD ?_) | (with_reducible refine Ext.stepA ?_ _)))⟩
theorem c_impl_rowOf_v (m r : Nat) (D S : Int) (b off n cap : Nat) (w : World) (h1 : 1 ≤ m) (h2 : m ≤ 64) (hr : r ≤ 6) (hn : (r + 1) * m ≤ n) (hc : n ≤ cap) (hcm : cap ≤ maxLen) {ri : Int} (hri : (r : Int) = ri) :
    Calls Try.prog 79 #[.agg #[.int .i64 m, .int .i64 D, .int .i64 S, .slice (some ⟨b, off, none⟩) n cap], .int .i64 ri] w fun e w' => e = .returned (.slice (some ⟨b, off + r * m, none⟩) m m) ∧ Ext w w' := by
  subst hri; exact c_impl_rowOf m r D S b off n cap w h1 h2 hr hn hc hcm
set_option maxRecDepth 100000 in
set_option maxHeartbeats 8000000 in
theorem c_impl_rowDots_no (W D S : Int) (a : Option Addr) (n cap : Nat) (zs : List Int) (W' D' S' : Int) (a' : Option Addr) (n' cap' : Nat) (ys : List Int) (w : World) (hr : dotsB W D S zs W' D' S' ys = false) (hm : n ≤ maxLen) (h : Reads w a n (ints zs)) (hm' : n' ≤ maxLen) (h' : Reads w a' n' (ints ys)) :
    Calls Try.prog 85 #[.agg #[.int .i64 W, .int .i64 D, .int .i64 S, .slice a n cap], .agg #[.int .i64 W', .int .i64 D', .int .i64 S', .slice a' n' cap']] w fun e w' => e = .returned (.tuple #[.slice none 0 0, .bool false]) ∧ Ext w w' := by
  have H := Lib.hid h
  have H' := Lib.hid h'
  have HM := Lib.hid hm
  have HM' := Lib.hid hm'
  have BX := Lib.hid ((Box.alloc w #[.int .i64 W, .int .i64 D, .int .i64 S, .slice a n cap] 27).past (.cells #[.int .i64 W', .int .i64 D', .int .i64 S', .slice a' n' cap'] 27))
  have BY := Lib.hid (Box.alloc_at (w.alloc (.cells #[.int .i64 W, .int .i64 D, .int .i64 S, .slice a n cap] 27)) #[.int .i64 W', .int .i64 D', .int .i64 S', .slice a' n' cap'] 27 (b := w.heap.size + 1) (by simp))
  clear h h' hm hm'
  cases hg : mergeB W D S zs W' D' S' ys
  · have HG := Lib.hid hg
    clear hg hr
    go_enter Try.func85, Try.ntmps85
    go_wp2_with (go_at_call 81; refine (c_impl_canMerge W D S a n cap zs W' D' S' a' n' cap' ys _ HG.out HM.out (H.out.on (by (repeat (first | assumption | exact Ext.refl _ | (with_reducible refine Ext.stepS ?_ (by first | exact Nat.le_refl _ | (simp; done) | (simp; omega)) _) | (with_reducible refine Ext.stepN ?_ _) | (with_reducible refine Ext.stepD ?_) | (with_reducible refine Ext.stepA ?_ _))))) HM'.out (H'.out.on (by (repeat (first | assumption | exact Ext.refl _ | (with_reducible refine Ext.stepS ?_ (by first | exact Nat.le_refl _ | (simp; done) | (simp; omega)) _) | (with_reducible refine Ext.stepN ?_ _) | (with_reducible refine Ext.stepD ?_) | (with_reducible refine Ext.stepA ?_ _)))))).mono ?_; rintro e u1 ⟨rfl, x1⟩; have EA : Ext ((w.alloc (.cells #[.int .i64 W, .int .i64 D, .int .i64 S, .slice a n cap] 27)).alloc (.cells #[.int .i64 W', .int .i64 D', .int .i64 S', .slice a' n' cap'] 27)) u1 := Ext.trans (by (repeat (first | assumption | exact Ext.refl _ | (with_reducible refine Ext.stepS ?_ (by first | exact Nat.le_refl _ | (simp; done) | (simp; omega)) _) | (with_reducible refine Ext.stepN ?_ _) | (with_reducible refine Ext.stepD ?_) | (with_reducible refine Ext.stepA ?_ _)))) x1; have EW : Ext w u1 := Ext.trans (by (repeat (first | assumption | exact Ext.refl _ | (with_reducible refine Ext.stepS ?_ (by first | exact Nat.le_refl _ | (simp; done) | (simp; omega)) _) | (with_reducible refine Ext.stepN ?_ _) | (with_reducible refine Ext.stepD ?_) | (with_reducible refine Ext.stepA ?_ _)))) x1; obtain ⟨ka0, ka1, ka2, ka3⟩ := (BX.out.on EA).four; obtain ⟨kb0, kb1, kb2, kb3⟩ := (BY.out.on EA).four)
    go_ret2
    exact ⟨rfl, by (repeat (first | assumption | exact Ext.refl _ | (with_reducible refine Ext.stepS ?_ (by first | exact Nat.le_refl _ | (simp; done) | (simp; omega)) _) | (with_reducible refine Ext.stepN ?_ _) | (with_reducible refine Ext.stepD ?_) | (with_reducible refine Ext.stepA ?_ _)))⟩
  · cases hz : manyB 1000000 zs
    · have HG := Lib.hid hg
      have HZ := Lib.hid hz
      clear hg hr hz
      go_enter Try.func85, Try.ntmps85
      go_wp2_with (first | (go_at_call 81; refine (c_impl_canMerge W D S a n cap zs W' D' S' a' n' cap' ys _ HG.out HM.out (H.out.on (by (repeat (first | assumption | exact Ext.refl _ | (with_reducible refine Ext.stepS ?_ (by first | exact Nat.le_refl _ | (simp; done) | (simp; omega)) _) | (with_reducible refine Ext.stepN ?_ _) | (with_reducible refine Ext.stepD ?_) | (with_reducible refine Ext.stepA ?_ _))))) HM'.out (H'.out.on (by (repeat (first | assumption | exact Ext.refl _ | (with_reducible refine Ext.stepS ?_ (by first | exact Nat.le_refl _ | (simp; done) | (simp; omega)) _) | (with_reducible refine Ext.stepN ?_ _) | (with_reducible refine Ext.stepD ?_) | (with_reducible refine Ext.stepA ?_ _)))))).mono ?_; rintro e u1 ⟨rfl, x1⟩; have EA : Ext ((w.alloc (.cells #[.int .i64 W, .int .i64 D, .int .i64 S, .slice a n cap] 27)).alloc (.cells #[.int .i64 W', .int .i64 D', .int .i64 S', .slice a' n' cap'] 27)) u1 := Ext.trans (by (repeat (first | assumption | exact Ext.refl _ | (with_reducible refine Ext.stepS ?_ (by first | exact Nat.le_refl _ | (simp; done) | (simp; omega)) _) | (with_reducible refine Ext.stepN ?_ _) | (with_reducible refine Ext.stepD ?_) | (with_reducible refine Ext.stepA ?_ _)))) x1; have EW : Ext w u1 := Ext.trans (by (repeat (first | assumption | exact Ext.refl _ | (with_reducible refine Ext.stepS ?_ (by first | exact Nat.le_refl _ | (simp; done) | (simp; omega)) _) | (with_reducible refine Ext.stepN ?_ _) | (with_reducible refine Ext.stepD ?_) | (with_reducible refine Ext.stepA ?_ _)))) x1; obtain ⟨ka0, ka1, ka2, ka3⟩ := (BX.out.on EA).four; obtain ⟨kb0, kb1, kb2, kb3⟩ := (BY.out.on EA).four) | (go_at_call_of 56 (Value.slice a n cap); refine (c_impl_areWithin a n cap zs 1000000 _ (by decide) (by decide) HM.out HZ.out (H.out.on (by (repeat (first | assumption | exact Ext.refl _ | (with_reducible refine Ext.stepS ?_ (by first | exact Nat.le_refl _ | (simp; done) | (simp; omega)) _) | (with_reducible refine Ext.stepN ?_ _) | (with_reducible refine Ext.stepD ?_) | (with_reducible refine Ext.stepA ?_ _)))))).mono ?_; rintro e w9 ⟨rfl, rfl⟩))
      go_ret2
      exact ⟨rfl, by (repeat (first | assumption | exact Ext.refl _ | (with_reducible refine Ext.stepS ?_ (by first | exact Nat.le_refl _ | (simp; done) | (simp; omega)) _) | (with_reducible refine Ext.stepN ?_ _) | (with_reducible refine Ext.stepD ?_) | (with_reducible refine Ext.stepA ?_ _)))⟩
    · have HY := Lib.hid (show manyB 1000000 ys = false by unfold dotsB at hr; rw [hg, hz] at hr; simpa using hr)
      have HG := Lib.hid hg
      have HZ := Lib.hid hz
      clear hg hr hz
      go_enter Try.func85, Try.ntmps85
      go_wp2_with (first | (go_at_call 81; refine (c_impl_canMerge W D S a n cap zs W' D' S' a' n' cap' ys _ HG.out HM.out (H.out.on (by (repeat (first | assumption | exact Ext.refl _ | (with_reducible refine Ext.stepS ?_ (by first | exact Nat.le_refl _ | (simp; done) | (simp; omega)) _) | (with_reducible refine Ext.stepN ?_ _) | (with_reducible refine Ext.stepD ?_) | (with_reducible refine Ext.stepA ?_ _))))) HM'.out (H'.out.on (by (repeat (first | assumption | exact Ext.refl _ | (with_reducible refine Ext.stepS ?_ (by first | exact Nat.le_refl _ | (simp; done) | (simp; omega)) _) | (with_reducible refine Ext.stepN ?_ _) | (with_reducible refine Ext.stepD ?_) | (with_reducible refine Ext.stepA ?_ _)))))).mono ?_; rintro e u1 ⟨rfl, x1⟩; have EA : Ext ((w.alloc (.cells #[.int .i64 W, .int .i64 D, .int .i64 S, .slice a n cap] 27)).alloc (.cells #[.int .i64 W', .int .i64 D', .int .i64 S', .slice a' n' cap'] 27)) u1 := Ext.trans (by (repeat (first | assumption | exact Ext.refl _ | (with_reducible refine Ext.stepS ?_ (by first | exact Nat.le_refl _ | (simp; done) | (simp; omega)) _) | (with_reducible refine Ext.stepN ?_ _) | (with_reducible refine Ext.stepD ?_) | (with_reducible refine Ext.stepA ?_ _)))) x1; have EW : Ext w u1 := Ext.trans (by (repeat (first | assumption | exact Ext.refl _ | (with_reducible refine Ext.stepS ?_ (by first | exact Nat.le_refl _ | (simp; done) | (simp; omega)) _) | (with_reducible refine Ext.stepN ?_ _) | (with_reducible refine Ext.stepD ?_) | (with_reducible refine Ext.stepA ?_ _)))) x1; obtain ⟨ka0, ka1, ka2, ka3⟩ := (BX.out.on EA).four; obtain ⟨kb0, kb1, kb2, kb3⟩ := (BY.out.on EA).four) | (go_at_call_of 56 (Value.slice a n cap); refine (c_impl_areWithin a n cap zs 1000000 _ (by decide) (by decide) HM.out HZ.out (H.out.on (by (repeat (first | assumption | exact Ext.refl _ | (with_reducible refine Ext.stepS ?_ (by first | exact Nat.le_refl _ | (simp; done) | (simp; omega)) _) | (with_reducible refine Ext.stepN ?_ _) | (with_reducible refine Ext.stepD ?_) | (with_reducible refine Ext.stepA ?_ _)))))).mono ?_; rintro e w9 ⟨rfl, rfl⟩) | (go_at_call_of 56 (Value.slice a' n' cap'); refine (c_impl_areWithin a' n' cap' ys 1000000 _ (by decide) (by decide) HM'.out HY.out (H'.out.on (by (repeat (first | assumption | exact Ext.refl _ | (with_reducible refine Ext.stepS ?_ (by first | exact Nat.le_refl _ | (simp; done) | (simp; omega)) _) | (with_reducible refine Ext.stepN ?_ _) | (with_reducible refine Ext.stepD ?_) | (with_reducible refine Ext.stepA ?_ _)))))).mono ?_; rintro e w9 ⟨rfl, rfl⟩))
      go_ret2
      exact ⟨rfl, by (repeat (first | assumption | exact Ext.refl _ | (with_reducible refine Ext.stepS ?_ (by first | exact Nat.le_refl _ | (simp; done) | (simp; omega)) _) | (with_reducible refine Ext.stepN ?_ _) | (with_reducible refine Ext.stepD ?_) | (with_reducible refine Ext.stepA ?_ _)))⟩
end Go.Proofs.Ytjckikcndoobnaa
