/- Structs of integers and several slices (Window): what the laws' helpers answer. -/
import Derived.Test.YtgejfeedcphfkaaDoorMul
namespace Go.Proofs.YtgejfeedcphfkaaDoor
open Go.ChangeShapes Go.WideShapes Go.ChangeAt Go.RowKit
set_option linter.unusedVariables false
/-- Window as values -/
structure NV where
  L : Int
  P : Int
  ts : List Int
  zs : List Int
def NV.no : NV := ⟨0, 0, [], []⟩
def RetKN (t1 t2 : TypeId) (c : NV) (w : World) (e : Ending) (w' : World) : Prop := ∃ a1 k1 a2 k2, e = .returned (.agg #[.int .i64 c.L, .int .i64 c.P, .slice a1 c.ts.length k1, .slice a2 c.zs.length k2]) ∧ Own2 t1 t2 w' w.heap.size w'.heap.size a1 c.ts.length k1 (ints c.ts) a2 c.zs.length k2 (ints c.zs) ∧ Ext w w'
def RetKNB (t1 t2 : TypeId) (c : NV) (b : Bool) (w : World) (e : Ending) (w' : World) : Prop := ∃ a1 k1 a2 k2, e = .returned (.tuple #[.agg #[.int .i64 c.L, .int .i64 c.P, .slice a1 c.ts.length k1, .slice a2 c.zs.length k2], .bool b]) ∧ Own2 t1 t2 w' w.heap.size w'.heap.size a1 c.ts.length k1 (ints c.ts) a2 c.zs.length k2 (ints c.zs) ∧ Ext w w'
def RetMarkN (t1 t2 : TypeId) (lo hi : Nat) (a1 : Option Addr) (n1 k1 : Nat) (a2 : Option Addr) (n2 k2 : Nat) (s : Nat) (w : World) (e : Ending) (w' : World) : Prop := e = .returned (.int .i64 ((s + n1 + n2 : Nat) : Int)) ∧ Own2 t1 t2 w' lo hi a1 n1 k1 (ints (marks (s) n1)) a2 n2 k2 (ints (marks (s + n1) n2)) ∧ Touch lo hi w w'
theorem c_szN_ok (L P : Int) (a1 : Option Addr) (n1 cap1 : Nat) (a2 : Option Addr) (n2 cap2 : Nat) (l : Nat) (w : World) (h : n1 + n2 ≤ l) (hl : l ≤ 1048576) : Calls Tryd.prog 20 #[.agg #[.int .i64 L, .int .i64 P, .slice a1 n1 cap1, .slice a2 n2 cap2], .int .i64 l] w fun e w' => e = .returned (.int .i64 ((l - (n1 + n2) : Nat) : Int)) ∧ Ext w w' := by
  obtain ⟨l1, h1⟩ : ∃ r : Nat, l - n1 = r := ⟨_, rfl⟩
  obtain ⟨l2, h2⟩ : ∃ r : Nat, l1 - n2 = r := ⟨_, rfl⟩
  have E := Lib.hid (show l - (n1 + n2) = l2 by omega)
  have P1 := Lib.hid (show n1 ≤ l by omega)
  have Q1 := Lib.hid (show l ≤ 1048576 by omega)
  have z1 : (0 : Int) ≤ (l1 : Int) := by omega
  have P2 := Lib.hid (show n2 ≤ l1 by omega)
  have Q2 := Lib.hid (show l1 ≤ 1048576 by omega)
  have z2 : (0 : Int) ≤ (l2 : Int) := by omega
  have R1 := Lib.hid h1
  have R2 := Lib.hid h2
  clear h hl h1 h2
  have BA := Lib.hid (Box.alloc w #[.int .i64 L, .int .i64 P, .slice a1 n1 cap1, .slice a2 n2 cap2] 42)
  obtain ⟨b0, b1, b2, b3⟩ := BA.out.four
  go_enter Tryd.func20, Tryd.ntmps20
  go_wp2_with fail
  refine (c_szI_ok _ _ _ l _ P1.out Q1.out).mono ?_; rw [R1.out]; rintro e w' ⟨rfl, rfl⟩
  go_wp2_with fail
  refine (c_szI_ok _ _ _ l1 _ P2.out Q2.out).mono ?_; rw [R2.out]; rintro e w' ⟨rfl, rfl⟩
  go_wp2
  go_ret
  exact ⟨by first | (rw [E.out]; done) | (rw [E.out]; rfl), by first | exact Ext.alloc _ _ | exact (Ext.refl _).stepA _⟩
theorem c_szN_no (L P : Int) (a1 : Option Addr) (n1 cap1 : Nat) (a2 : Option Addr) (n2 cap2 : Nat) (l : Nat) (w : World) (h : l < n1 + n2) (hl : l ≤ 1048576) (hn1 : n1 ≤ maxLen) (hn2 : n2 ≤ maxLen) : Calls Tryd.prog 20 #[.agg #[.int .i64 L, .int .i64 P, .slice a1 n1 cap1, .slice a2 n2 cap2], .int .i64 l] w fun e w' => e = .returned (.int .i64 (-1)) ∧ Ext w w' := by
  have BA := Lib.hid (Box.alloc w #[.int .i64 L, .int .i64 P, .slice a1 n1 cap1, .slice a2 n2 cap2] 42)
  obtain ⟨b0, b1, b2, b3⟩ := BA.out.four
  by_cases g1 : l < n1
  · have G1 := Lib.hid g1; have HL1 := Lib.hid (show l ≤ 1048576 by omega); have HN1 := Lib.hid hn1
    clear h hl g1 hn1 hn2
    go_enter Tryd.func20, Tryd.ntmps20
    go_wp2_with fail
    refine (c_szI_no _ _ _ l _ G1.out HL1.out HN1.out).mono ?_; rintro e w' ⟨rfl, rfl⟩
    go_wp2
    go_ret
    exact ⟨rfl, by first | exact Ext.alloc _ _ | exact (Ext.refl _).stepA _⟩
  obtain ⟨l1, h1⟩ : ∃ r : Nat, l - n1 = r := ⟨_, rfl⟩
  have P1 := Lib.hid (show n1 ≤ l by omega); have Q1 := Lib.hid (show l ≤ 1048576 by omega)
  have z1 : (0 : Int) ≤ (l1 : Int) := by omega
  have R1 := Lib.hid h1
  replace h : l1 < n2 := by omega
  have hl1 : l1 ≤ 1048576 := by omega
  clear hl h1 g1; have hl := hl1; clear hl1
  have g2 : l1 < n2 := by omega
  have G2 := Lib.hid g2; have HL2 := Lib.hid (show l1 ≤ 1048576 by omega); have HN2 := Lib.hid hn2
  clear h hl g2 hn1 hn2
  go_enter Tryd.func20, Tryd.ntmps20
  go_wp2_with fail
  refine (c_szI_ok _ _ _ l _ P1.out Q1.out).mono ?_; rw [R1.out]; rintro e w' ⟨rfl, rfl⟩
  go_wp2_with fail
  refine (c_szI_no _ _ _ l1 _ G2.out HL2.out HN2.out).mono ?_; rintro e w' ⟨rfl, rfl⟩
  go_wp2
  go_ret
  exact ⟨rfl, by first | exact Ext.alloc _ _ | exact (Ext.refl _).stepA _⟩
set_option maxHeartbeats 2000000 in
theorem c_toN (L P : Int) (a1 : Option Addr) (cap1 : Nat) (zs1 : List Int) (a2 : Option Addr) (cap2 : Nat) (zs2 : List Int) (w : World) (hl : zs1.length + zs2.length ≤ 1048576) (h : Reads2 w a1 zs1.length (ints zs1) a2 zs2.length (ints zs2)) :
    Calls Tryd.prog 22 #[.agg #[.int .i64 L, .int .i64 P, .slice a1 zs1.length cap1, .slice a2 zs2.length cap2]] w (RetKN 2 2 ⟨L, P, zs1, zs2⟩ w) := by
  have HL1 := Lib.hid (show zs1.length ≤ 1048576 by omega)
  have HL2 := Lib.hid (show zs2.length ≤ 1048576 by omega)
  have H := Lib.hid h
  clear h hl
  have BA := Lib.hid (Box.alloc w #[.int .i64 L, .int .i64 P, .slice a1 zs1.length cap1, .slice a2 zs2.length cap2] 42)
  have BR := Lib.hid (Box.alloc_at (w.alloc (.cells #[.int .i64 L, .int .i64 P, .slice a1 zs1.length cap1, .slice a2 zs2.length cap2] 42)) #[.int .i64 0, .int .i64 0, .slice none 0 0, .slice none 0 0] 45 (b := w.heap.size + 1) (by simp))
  have BO := Lib.hid (Box.alloc_at ((w.alloc (.cells #[.int .i64 L, .int .i64 P, .slice a1 zs1.length cap1, .slice a2 zs2.length cap2] 42)).alloc (.cells #[.int .i64 0, .int .i64 0, .slice none 0 0, .slice none 0 0] 45)) #[.int .i64 L, .int .i64 P, .slice none 0 0, .slice none 0 0] 45 (b := w.heap.size + 2) (by simp))
  replace BA := Lib.hid ((BA.out.past (.cells #[.int .i64 0, .int .i64 0, .slice none 0 0, .slice none 0 0] 45)).past (.cells #[.int .i64 L, .int .i64 P, .slice none 0 0, .slice none 0 0] 45))
  replace BR := Lib.hid (BR.out.past (.cells #[.int .i64 L, .int .i64 P, .slice none 0 0, .slice none 0 0] 45))
  have X := (((Ext.refl w).stepA (.cells #[.int .i64 L, .int .i64 P, .slice a1 zs1.length cap1, .slice a2 zs2.length cap2] 42)).stepA (.cells #[.int .i64 0, .int .i64 0, .slice none 0 0, .slice none 0 0] 45)).stepA (.cells #[.int .i64 L, .int .i64 P, .slice none 0 0, .slice none 0 0] 45)
  go_enter Tryd.func22, Tryd.ntmps22
  obtain ⟨p0, p1, p2, p3⟩ := BA.out.four
  obtain ⟨b0, b1, b2, b3⟩ := BO.out.four
  obtain ⟨f0, f1, f2, f3⟩ := BO.out.free; have f4 := BO.out.frozen 4
  go_wp2_with fail
  clear p0 p1 p2 p3 b0 b1 b2 b3 f0 f1 f2 f3 f4
  refine (c_toI _ _ _ zs1 _ HL1.out (H.out.r1.on X)).mono ?_; rintro e u1 ⟨a1', c1', rfl, o', x'⟩
  replace BA := Lib.hid (BA.out.on x'); replace BR := Lib.hid (BR.out.on x'); replace BO := Lib.hid (BO.out.on x')
  replace X := X.trans x'
  have O1 := Lib.hid (o'.wide (lo' := w.heap.size + 3) (hi' := u1.heap.size) (by first | omega | (simp; done) | (simp; omega)) (Nat.le_refl _))
  have SZ1 : w.heap.size + 3 ≤ u1.heap.size := Nat.le_trans (by first | omega | (simp; done) | (simp; omega)) x'.size
  clear o' x'
  obtain ⟨p0, p1, p2, p3⟩ := BA.out.four
  obtain ⟨b0, b1, b2, b3⟩ := BO.out.four
  obtain ⟨f0, f1, f2, f3⟩ := BO.out.free; have f4 := BO.out.frozen 4
  go_wp2_with fail
  clear p0 p1 p2 p3 b0 b1 b2 b3 f0 f1 f2 f3 f4
  refine (c_toI _ _ _ zs2 _ HL2.out (H.out.r2.on (Ext.stepS X (by first | omega | (simp; done) | (simp; omega)) _))).mono ?_; rintro e u2 ⟨a2', c2', rfl, o', x'⟩
  have T := Lib.hid (Touch.setCell u1 (a := ⟨w.heap.size + 2, 2, none⟩) (lo := w.heap.size + 2) (hi := w.heap.size + 3) (by simp) (by simp) (.slice a1' zs1.length c1'))
  replace BA := Lib.hid ((BA.out.beside T.out (by omega)).on x')
  replace BR := Lib.hid ((BR.out.beside T.out (by omega)).on x')
  replace BO := Lib.hid ((BO.out.putK 2 (.slice a1' zs1.length c1')).on x')
  replace O1 := Lib.hid ((O1.out.beside T.out (by omega)).on x')
  replace X := (Ext.stepS X (by first | omega | (simp; done) | (simp; omega)) _).trans x'
  clear T
  have O2 := Lib.hid (o'.wide (lo' := u1.heap.size) (hi' := u2.heap.size) (by first | omega | (simp; done) | (simp; omega)) (Nat.le_refl _))
  have SZ2 : u1.heap.size ≤ u2.heap.size := Nat.le_trans (by first | omega | (simp; done) | (simp; omega)) x'.size
  clear o' x'
  obtain ⟨b0, b1, b2, b3⟩ := BO.out.four
  obtain ⟨f0, f1, f2, f3⟩ := BO.out.free; have f4 := BO.out.frozen 4
  obtain ⟨r0, r1, r2, r3⟩ := BR.out.four
  obtain ⟨g0, g1, g2, g3⟩ := BR.out.free; have g4 := BR.out.frozen 4
  have A12 := Lib.hid (O1.out.apart_of O2.out (by first | omega | (simp; done) | (simp; omega)))
  go_wp2
  refine bodyPost_ret (v := .agg #[.int .i64 L, .int .i64 P, .slice a1' zs1.length c1', .slice a2' zs2.length c2']) (by simp [results, Tryd.results22, go_sem, r0, r1, r2, r3]) rfl ⟨a1', c1', a2', c2', rfl, ⟨?_, ?_, A12.out⟩, ?_⟩
  · refine own_touch O1.out (lo' := w.heap.size + 1) (hi' := w.heap.size + 3) ?_ (by first | omega | (simp; done) | (simp; omega)) (by first | omega | (simp; done) | (simp; omega)) (by first | omega | (simp; done) | (simp; omega))
    (repeat (first | assumption | exact Touch.refl _ _ _ | (with_reducible refine Touch.stepS ?_ (by first | exact Nat.le_refl _ | (simp; done) | (simp; omega)) (by first | (simp; done) | (simp; omega)) _) | (with_reducible refine Touch.stepN ?_ _) | (with_reducible refine Touch.stepA ?_ _)))
  · refine own_touch O2.out (lo' := w.heap.size + 1) (hi' := w.heap.size + 3) ?_ (by first | omega | (simp; done) | (simp; omega)) (by first | omega | (simp; done) | (simp; omega)) (by first | omega | (simp; done) | (simp; omega))
    (repeat (first | assumption | exact Touch.refl _ _ _ | (with_reducible refine Touch.stepS ?_ (by first | exact Nat.le_refl _ | (simp; done) | (simp; omega)) (by first | (simp; done) | (simp; omega)) _) | (with_reducible refine Touch.stepN ?_ _) | (with_reducible refine Touch.stepA ?_ _)))
  · (repeat (first | assumption | exact Ext.refl _ | (with_reducible refine Ext.stepS ?_ (by first | exact Nat.le_refl _ | (simp; done) | (simp; omega)) _) | (with_reducible refine Ext.stepN ?_ _) | (with_reducible refine Ext.stepD ?_) | (with_reducible refine Ext.stepA ?_ _)))
set_option maxHeartbeats 1000000 in
theorem c_eqN (L P : Int) (a1 a1' : Option Addr) (cap1 cap1' : Nat) (zs1 : List Int) (a2 a2' : Option Addr) (cap2 cap2' : Nat) (zs2 : List Int) (w : World) (hl : zs1.length + zs2.length ≤ 1048576) (h : Reads2 w a1 zs1.length (ints zs1) a2 zs2.length (ints zs2)) (h' : Reads2 w a1' zs1.length (ints zs1) a2' zs2.length (ints zs2)) :
    Calls Tryd.prog 24 #[.agg #[.int .i64 L, .int .i64 P, .slice a1 zs1.length cap1, .slice a2 zs2.length cap2], .agg #[.int .i64 L, .int .i64 P, .slice a1' zs1.length cap1', .slice a2' zs2.length cap2']] w fun e w' => e = .returned (.bool true) ∧ Ext w w' := by
  have HL1 := Lib.hid (show zs1.length ≤ 1048576 by omega)
  have HL2 := Lib.hid (show zs2.length ≤ 1048576 by omega)
  have H := Lib.hid h; have H' := Lib.hid h'
  clear h h' hl
  have BA := Lib.hid ((Box.alloc w #[.int .i64 L, .int .i64 P, .slice a1 zs1.length cap1, .slice a2 zs2.length cap2] 45).past (.cells #[.int .i64 L, .int .i64 P, .slice a1' zs1.length cap1', .slice a2' zs2.length cap2'] 45))
  have BB := Lib.hid (Box.alloc_at (w.alloc (.cells #[.int .i64 L, .int .i64 P, .slice a1 zs1.length cap1, .slice a2 zs2.length cap2] 45)) #[.int .i64 L, .int .i64 P, .slice a1' zs1.length cap1', .slice a2' zs2.length cap2'] 45 (b := w.heap.size + 1) (by simp))
  have X := ((Ext.refl w).stepA (.cells #[.int .i64 L, .int .i64 P, .slice a1 zs1.length cap1, .slice a2 zs2.length cap2] 45)).stepA (.cells #[.int .i64 L, .int .i64 P, .slice a1' zs1.length cap1', .slice a2' zs2.length cap2'] 45)
  go_enter Tryd.func24, Tryd.ntmps24
  obtain ⟨p0, p1, p2, p3⟩ := BA.out.four
  obtain ⟨q0, q1, q2, q3⟩ := BB.out.four
  go_wp2_with fail
  clear p0 q0 p1 q1 p2 q2 p3 q3
  refine (c_eqI_E _ _ _ _ _ zs1 _ HL1.out (H.out.r1.on X) (H'.out.r1.on X)).mono ?_; rintro e u1 ⟨rfl, x'⟩
  replace BA := Lib.hid (BA.out.on x'); replace BB := Lib.hid (BB.out.on x'); replace X := X.trans x'; clear x'
  obtain ⟨p0, p1, p2, p3⟩ := BA.out.four
  obtain ⟨q0, q1, q2, q3⟩ := BB.out.four
  go_wp2_with fail
  clear p0 q0 p1 q1 p2 q2 p3 q3
  refine (c_eqI_E _ _ _ _ _ zs2 _ HL2.out (H.out.r2.on X) (H'.out.r2.on X)).mono ?_; rintro e u2 ⟨rfl, x'⟩
  replace BA := Lib.hid (BA.out.on x'); replace BB := Lib.hid (BB.out.on x'); replace X := X.trans x'; clear x'
  go_wp2
  go_ret
  exact ⟨rfl, X⟩
end Go.Proofs.YtgejfeedcphfkaaDoor
