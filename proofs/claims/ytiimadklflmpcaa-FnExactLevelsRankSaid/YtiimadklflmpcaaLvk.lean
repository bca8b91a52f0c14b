/- Levels: what the laws' helpers answer. -/
import Derived.Test.YtiimadklflmpcaaSsg
import Derived.Test.YtiimadklflmpcaaLcl
namespace Go.Proofs.Ytiimadklflmpcaa
open Go.ChangeShapes Go.WideShapes Go.ChangeAt Go.RowKit
set_option linter.unusedVariables false
theorem own_touchS {α : Type} {fn : List α → List Value} {tt ti : TypeId} {u w' : World} {lo hi lo' hi' lo2 n c : Nat} {a : Option Addr} {hs : Nat → Hd} {zss : List (List α)} (h : OwnS fn tt ti u lo hi a n c hs zss) (T : Touch lo' hi' u w') (hd : hi ≤ lo' ∨ hi' ≤ lo) (h1 : lo2 ≤ lo) (h2 : hi ≤ u.heap.size) : OwnS fn tt ti w' lo2 w'.heap.size a n c hs zss :=
  (h.beside T hd).wide h1 (Nat.le_trans h2 T.size)
def RetV (tt ti : TypeId) (R S : Int) (zss : List (List Nat)) (w : World) (e : Ending) (w' : World) : Prop := ∃ a c hs, e = .returned (.agg #[.int .i64 R, .int .i64 S, .slice a zss.length c]) ∧ OwnS flos tt ti w' w.heap.size w'.heap.size a zss.length c hs zss ∧ Ext w w'
theorem c_szV_ok (R S : Int) (a : Option Addr) (n cap l : Nat) (hs : Nat → Hd) (zss : List (List Nat)) (w : World) (h : n + totS zss n ≤ l) (hl : l ≤ 1048576) (hr : ReadsS flos w a n hs zss) :
    Calls Try.prog 36 #[.agg #[.int .i64 R, .int .i64 S, .slice a n cap], .int .i64 l] w fun e w' => e = .returned (.int .i64 ((l - (n + totS zss n) : Nat) : Int)) ∧ Ext w w' := by
  have h2 : (0 : Int) ≤ ((l - (n + totS zss n) : Nat) : Int) := by omega
  obtain ⟨r, hr'⟩ : ∃ r : Nat, l - (n + totS zss n) = r := ⟨_, rfl⟩
  rw [hr'] at h2 ⊢
  have RR := Lib.hid hr'
  have HR := Lib.hid hr
  clear hr' hr
  go_enter Try.func36, Try.ntmps36
  go_wp2_with fail
  refine (c_szSG_ok _ _ _ l _ zss _ h hl (HR.out.on (Ext.alloc _ _))).mono ?_; rw [RR.out]; rintro e w' ⟨rfl, x'⟩
  have X := Lib.hid ((Ext.alloc _ _).trans x')
  clear x'
  go_wp2
  go_ret
  exact ⟨rfl, X.out⟩
theorem c_szV_no (R S : Int) (a : Option Addr) (n cap l : Nat) (hs : Nat → Hd) (zss : List (List Nat)) (w : World) (h : l < n + totS zss n) (hl : l ≤ 1048576) (hn : n ≤ maxLen) (hmr : ∀ i, i < n → (rowS zss i).length ≤ maxLen) (hr : ReadsS flos w a n hs zss) :
    Calls Try.prog 36 #[.agg #[.int .i64 R, .int .i64 S, .slice a n cap], .int .i64 l] w fun e w' => e = .returned (.int .i64 (-1)) ∧ Ext w w' := by
  have HR := Lib.hid hr
  clear hr
  go_enter Try.func36, Try.ntmps36
  go_wp2_with fail
  refine (c_szSG_no _ _ _ l _ zss _ h hl hn hmr (HR.out.on (Ext.alloc _ _))).mono ?_; rintro e w' ⟨rfl, x'⟩
  have X := Lib.hid ((Ext.alloc _ _).trans x')
  clear x'
  go_wp2
  go_ret
  exact ⟨rfl, X.out⟩
set_option maxHeartbeats 1000000 in
theorem c_toV (R S : Int) (a : Option Addr) (n cap : Nat) (hs : Nat → Hd) (zss : List (List Nat)) (w : World) (hl : n + totS zss n ≤ 1048576) (h : ReadsS flos w a n hs zss) :
    Calls Try.prog 38 #[.agg #[.int .i64 R, .int .i64 S, .slice a n cap]] w (RetV 94 39 R S zss w) := by
  have hz := h.len
  subst hz
  have H := Lib.hid h
  clear h
  have BR := Lib.hid (Box.alloc_at (w.alloc (.cells #[.int .i64 R, .int .i64 S, .slice a zss.length cap] 46)) #[.int .i64 0, .int .i64 0, .slice none 0 0] 49 (b := w.heap.size + 1) (by simp))
  have BO := Lib.hid (Box.alloc_at ((w.alloc (.cells #[.int .i64 R, .int .i64 S, .slice a zss.length cap] 46)).alloc (.cells #[.int .i64 0, .int .i64 0, .slice none 0 0] 49)) #[.int .i64 R, .int .i64 S, .slice none 0 0] 49 (b := w.heap.size + 2) (by simp))
  go_enter Try.func38, Try.ntmps38
  go_wp2_with fail
  refine (c_toSG _ _ _ _ zss _ hl (H.out.on (((Ext.refl w).stepA _ |>.stepA _) |>.stepA _))).mono ?_; rintro e u1 ⟨a', c', hs', rfl, o', x1⟩
  have BO1 := Lib.hid (BO.out.on x1)
  have BR1 := Lib.hid ((BR.out.past _).on x1)
  have O := Lib.hid o'
  have X := (((Ext.refl w).stepA _ |>.stepA _) |>.stepA _).trans x1
  obtain ⟨b0, b1, b2⟩ := BO1.out.three
  obtain ⟨f0, f1, f2, _⟩ := BO1.out.free
  obtain ⟨r0, r1, r2⟩ := BR1.out.three
  obtain ⟨g0, g1, g2, _⟩ := BR1.out.free
  have hs1 := x1.size
  simp at hs1
  clear x1 o'
  go_wp2
  refine bodyPost_ret (v := .agg #[.int .i64 R, .int .i64 S, .slice a' zss.length c']) (by simp [results, Try.results38, go_sem, r0, r1, r2]) rfl ⟨a', c', hs', rfl, ?_, ?_⟩
  · refine own_touchS O.out (lo' := w.heap.size + 1) (hi' := w.heap.size + 3) ?_ (by first | omega | (simp; done) | (simp; omega)) (by first | omega | (simp; done) | (simp; omega)) (Nat.le_refl _)
    (repeat (first | assumption | exact Touch.refl _ _ _ | (with_reducible refine Touch.stepS ?_ (by first | exact Nat.le_refl _ | (simp; done) | (simp; omega)) (by first | (simp; done) | (simp; omega)) _) | (with_reducible refine Touch.stepN ?_ _) | (with_reducible refine Touch.stepA ?_ _)))
  · (repeat (first | assumption | exact Ext.refl _ | (with_reducible refine Ext.stepS ?_ (by first | exact Nat.le_refl _ | (simp; done) | (simp; omega)) _) | (with_reducible refine Ext.stepN ?_ _) | (with_reducible refine Ext.stepD ?_) | (with_reducible refine Ext.stepA ?_ _)))
theorem c_eqV_E (R S : Int) (a a' : Option Addr) (n cap cap' : Nat) (hs hs' : Nat → Hd) (zss : List (List Nat)) (w : World) (hl : n + totS zss n ≤ 1048576) (h : ReadsS flos w a n hs zss) (h' : ReadsS flos w a' n hs' zss) :
    Calls Try.prog 40 #[.agg #[.int .i64 R, .int .i64 S, .slice a n cap], .agg #[.int .i64 R, .int .i64 S, .slice a' n cap']] w fun e w' => e = .returned (.bool true) ∧ Ext w w' := by
  have H := Lib.hid h
  have H' := Lib.hid h'
  clear h h'
  go_enter Try.func40, Try.ntmps40
  go_wp2_with fail
  refine (c_eqSG_E _ _ _ _ _ _ _ zss _ hl (H.out.on ((Ext.refl w).stepA _ |>.stepA _)) (H'.out.on ((Ext.refl w).stepA _ |>.stepA _))).mono ?_; rintro e u1 ⟨rfl, x1⟩
  have X := ((Ext.refl w).stepA _ |>.stepA _).trans x1
  clear x1
  go_wp2
  go_ret
  exact ⟨rfl, X⟩
end Go.Proofs.Ytiimadklflmpcaa
