/- Structs of integers and several slices (Tops): what the laws' helpers answer. -/
import Derived.Test.YtfmjohpmfcmpoabMul
namespace Go.Proofs.Ytfmjohpmfcmpoab
open Go.ChangeShapes Go.WideShapes Go.ChangeAt Go.RowKit
set_option linter.unusedVariables false
/-- Tops as values -/
structure PV where
  R : Int
  ks : List Int
  cs : List Int
  es : List Int
def PV.no : PV := ⟨0, [], [], []⟩
def RetKP (t1 t2 t3 : TypeId) (c : PV) (w : World) (e : Ending) (w' : World) : Prop := ∃ a1 k1 a2 k2 a3 k3, e = .returned (.agg #[.int .i64 c.R, .slice a1 c.ks.length k1, .slice a2 c.cs.length k2, .slice a3 c.es.length k3]) ∧ Own3 t1 t2 t3 w' w.heap.size w'.heap.size a1 c.ks.length k1 (ints c.ks) a2 c.cs.length k2 (ints c.cs) a3 c.es.length k3 (ints c.es) ∧ Ext w w'
def RetKPB (t1 t2 t3 : TypeId) (c : PV) (b : Bool) (w : World) (e : Ending) (w' : World) : Prop := ∃ a1 k1 a2 k2 a3 k3, e = .returned (.tuple #[.agg #[.int .i64 c.R, .slice a1 c.ks.length k1, .slice a2 c.cs.length k2, .slice a3 c.es.length k3], .bool b]) ∧ Own3 t1 t2 t3 w' w.heap.size w'.heap.size a1 c.ks.length k1 (ints c.ks) a2 c.cs.length k2 (ints c.cs) a3 c.es.length k3 (ints c.es) ∧ Ext w w'
def RetMarkP (t1 t2 t3 : TypeId) (lo hi : Nat) (a1 : Option Addr) (n1 k1 : Nat) (a2 : Option Addr) (n2 k2 : Nat) (a3 : Option Addr) (n3 k3 : Nat) (s : Nat) (w : World) (e : Ending) (w' : World) : Prop := e = .returned (.int .i64 ((s + n1 + n2 + n3 : Nat) : Int)) ∧ Own3 t1 t2 t3 w' lo hi a1 n1 k1 (ints (marks (s) n1)) a2 n2 k2 (ints (marks (s + n1) n2)) a3 n3 k3 (ints (marks (s + n1 + n2) n3)) ∧ Touch lo hi w w'
theorem c_szP_ok (R : Int) (a1 : Option Addr) (n1 cap1 : Nat) (a2 : Option Addr) (n2 cap2 : Nat) (a3 : Option Addr) (n3 cap3 : Nat) (l : Nat) (w : World) (h : n1 + n2 + n3 ≤ l) (hl : l ≤ 1048576) : Calls Try.prog 15 #[.agg #[.int .i64 R, .slice a1 n1 cap1, .slice a2 n2 cap2, .slice a3 n3 cap3], .int .i64 l] w fun e w' => e = .returned (.int .i64 ((l - (n1 + n2 + n3) : Nat) : Int)) ∧ Ext w w' := by
  obtain ⟨l1, h1⟩ : ∃ r : Nat, l - n1 = r := ⟨_, rfl⟩
  obtain ⟨l2, h2⟩ : ∃ r : Nat, l1 - n2 = r := ⟨_, rfl⟩
  obtain ⟨l3, h3⟩ : ∃ r : Nat, l2 - n3 = r := ⟨_, rfl⟩
  have E := Lib.hid (show l - (n1 + n2 + n3) = l3 by omega)
  have P1 := Lib.hid (show n1 ≤ l by omega)
  have Q1 := Lib.hid (show l ≤ 1048576 by omega)
  have z1 : (0 : Int) ≤ (l1 : Int) := by omega
  have P2 := Lib.hid (show n2 ≤ l1 by omega)
  have Q2 := Lib.hid (show l1 ≤ 1048576 by omega)
  have z2 : (0 : Int) ≤ (l2 : Int) := by omega
  have P3 := Lib.hid (show n3 ≤ l2 by omega)
  have Q3 := Lib.hid (show l2 ≤ 1048576 by omega)
  have z3 : (0 : Int) ≤ (l3 : Int) := by omega
  have R1 := Lib.hid h1
  have R2 := Lib.hid h2
  have R3 := Lib.hid h3
  clear h hl h1 h2 h3
  have BA := Lib.hid (Box.alloc w #[.int .i64 R, .slice a1 n1 cap1, .slice a2 n2 cap2, .slice a3 n3 cap3] 24)
  obtain ⟨b0, b1, b2, b3⟩ := BA.out.four
  go_enter Try.func15, Try.ntmps15
  go_wp2_with fail
  refine (c_szI_ok _ _ _ l _ P1.out Q1.out).mono ?_; rw [R1.out]; rintro e w' ⟨rfl, rfl⟩
  go_wp2_with fail
  refine (c_szI_ok _ _ _ l1 _ P2.out Q2.out).mono ?_; rw [R2.out]; rintro e w' ⟨rfl, rfl⟩
  go_wp2_with fail
  refine (c_szI_ok _ _ _ l2 _ P3.out Q3.out).mono ?_; rw [R3.out]; rintro e w' ⟨rfl, rfl⟩
  go_wp2
  go_ret
  exact ⟨by first | (rw [E.out]; done) | (rw [E.out]; rfl), by first | exact Ext.alloc _ _ | exact (Ext.refl _).stepA _⟩
theorem c_szP_no (R : Int) (a1 : Option Addr) (n1 cap1 : Nat) (a2 : Option Addr) (n2 cap2 : Nat) (a3 : Option Addr) (n3 cap3 : Nat) (l : Nat) (w : World) (h : l < n1 + n2 + n3) (hl : l ≤ 1048576) (hn1 : n1 ≤ maxLen) (hn2 : n2 ≤ maxLen) (hn3 : n3 ≤ maxLen) : Calls Try.prog 15 #[.agg #[.int .i64 R, .slice a1 n1 cap1, .slice a2 n2 cap2, .slice a3 n3 cap3], .int .i64 l] w fun e w' => e = .returned (.int .i64 (-1)) ∧ Ext w w' := by
  have BA := Lib.hid (Box.alloc w #[.int .i64 R, .slice a1 n1 cap1, .slice a2 n2 cap2, .slice a3 n3 cap3] 24)
  obtain ⟨b0, b1, b2, b3⟩ := BA.out.four
  by_cases g1 : l < n1
  · have G1 := Lib.hid g1; have HL1 := Lib.hid (show l ≤ 1048576 by omega); have HN1 := Lib.hid hn1
    clear h hl g1 hn1 hn2 hn3
    go_enter Try.func15, Try.ntmps15
    go_wp2_with fail
    refine (c_szI_no _ _ _ l _ G1.out HL1.out HN1.out).mono ?_; rintro e w' ⟨rfl, rfl⟩
    go_wp2
    go_ret
    exact ⟨rfl, by first | exact Ext.alloc _ _ | exact (Ext.refl _).stepA _⟩
  obtain ⟨l1, h1⟩ : ∃ r : Nat, l - n1 = r := ⟨_, rfl⟩
  have P1 := Lib.hid (show n1 ≤ l by omega); have Q1 := Lib.hid (show l ≤ 1048576 by omega)
  have z1 : (0 : Int) ≤ (l1 : Int) := by omega
  have R1 := Lib.hid h1
  replace h : l1 < n2 + n3 := by omega
  have hl1 : l1 ≤ 1048576 := by omega
  clear hl h1 g1; have hl := hl1; clear hl1
  by_cases g2 : l1 < n2
  · have G2 := Lib.hid g2; have HL2 := Lib.hid (show l1 ≤ 1048576 by omega); have HN2 := Lib.hid hn2
    clear h hl g2 hn1 hn2 hn3
    go_enter Try.func15, Try.ntmps15
    go_wp2_with fail
    refine (c_szI_ok _ _ _ l _ P1.out Q1.out).mono ?_; rw [R1.out]; rintro e w' ⟨rfl, rfl⟩
    go_wp2_with fail
    refine (c_szI_no _ _ _ l1 _ G2.out HL2.out HN2.out).mono ?_; rintro e w' ⟨rfl, rfl⟩
    go_wp2
    go_ret
    exact ⟨rfl, by first | exact Ext.alloc _ _ | exact (Ext.refl _).stepA _⟩
  obtain ⟨l2, h2⟩ : ∃ r : Nat, l1 - n2 = r := ⟨_, rfl⟩
  have P2 := Lib.hid (show n2 ≤ l1 by omega); have Q2 := Lib.hid (show l1 ≤ 1048576 by omega)
  have z2 : (0 : Int) ≤ (l2 : Int) := by omega
  have R2 := Lib.hid h2
  replace h : l2 < n3 := by omega
  have hl2 : l2 ≤ 1048576 := by omega
  clear hl h2 g2; have hl := hl2; clear hl2
  have g3 : l2 < n3 := by omega
  have G3 := Lib.hid g3; have HL3 := Lib.hid (show l2 ≤ 1048576 by omega); have HN3 := Lib.hid hn3
  clear h hl g3 hn1 hn2 hn3
  go_enter Try.func15, Try.ntmps15
  go_wp2_with fail
  refine (c_szI_ok _ _ _ l _ P1.out Q1.out).mono ?_; rw [R1.out]; rintro e w' ⟨rfl, rfl⟩
  go_wp2_with fail
  refine (c_szI_ok _ _ _ l1 _ P2.out Q2.out).mono ?_; rw [R2.out]; rintro e w' ⟨rfl, rfl⟩
  go_wp2_with fail
  refine (c_szI_no _ _ _ l2 _ G3.out HL3.out HN3.out).mono ?_; rintro e w' ⟨rfl, rfl⟩
  go_wp2
  go_ret
  exact ⟨rfl, by first | exact Ext.alloc _ _ | exact (Ext.refl _).stepA _⟩
set_option maxHeartbeats 2000000 in
theorem c_toP (R : Int) (a1 : Option Addr) (cap1 : Nat) (zs1 : List Int) (a2 : Option Addr) (cap2 : Nat) (zs2 : List Int) (a3 : Option Addr) (cap3 : Nat) (zs3 : List Int) (w : World) (hl : zs1.length + zs2.length + zs3.length ≤ 1048576) (h : Reads3 w a1 zs1.length (ints zs1) a2 zs2.length (ints zs2) a3 zs3.length (ints zs3)) :
    Calls Try.prog 17 #[.agg #[.int .i64 R, .slice a1 zs1.length cap1, .slice a2 zs2.length cap2, .slice a3 zs3.length cap3]] w (RetKP 2 2 2 ⟨R, zs1, zs2, zs3⟩ w) := by
  have HL1 := Lib.hid (show zs1.length ≤ 1048576 by omega)
  have HL2 := Lib.hid (show zs2.length ≤ 1048576 by omega)
  have HL3 := Lib.hid (show zs3.length ≤ 1048576 by omega)
  have H := Lib.hid h
  clear h hl
  have BA := Lib.hid (Box.alloc w #[.int .i64 R, .slice a1 zs1.length cap1, .slice a2 zs2.length cap2, .slice a3 zs3.length cap3] 24)
  have BR := Lib.hid (Box.alloc_at (w.alloc (.cells #[.int .i64 R, .slice a1 zs1.length cap1, .slice a2 zs2.length cap2, .slice a3 zs3.length cap3] 24)) #[.int .i64 0, .slice none 0 0, .slice none 0 0, .slice none 0 0] 26 (b := w.heap.size + 1) (by simp))
  have BO := Lib.hid (Box.alloc_at ((w.alloc (.cells #[.int .i64 R, .slice a1 zs1.length cap1, .slice a2 zs2.length cap2, .slice a3 zs3.length cap3] 24)).alloc (.cells #[.int .i64 0, .slice none 0 0, .slice none 0 0, .slice none 0 0] 26)) #[.int .i64 R, .slice none 0 0, .slice none 0 0, .slice none 0 0] 26 (b := w.heap.size + 2) (by simp))
  replace BA := Lib.hid ((BA.out.past (.cells #[.int .i64 0, .slice none 0 0, .slice none 0 0, .slice none 0 0] 26)).past (.cells #[.int .i64 R, .slice none 0 0, .slice none 0 0, .slice none 0 0] 26))
  replace BR := Lib.hid (BR.out.past (.cells #[.int .i64 R, .slice none 0 0, .slice none 0 0, .slice none 0 0] 26))
  have X := (((Ext.refl w).stepA (.cells #[.int .i64 R, .slice a1 zs1.length cap1, .slice a2 zs2.length cap2, .slice a3 zs3.length cap3] 24)).stepA (.cells #[.int .i64 0, .slice none 0 0, .slice none 0 0, .slice none 0 0] 26)).stepA (.cells #[.int .i64 R, .slice none 0 0, .slice none 0 0, .slice none 0 0] 26)
  go_enter Try.func17, Try.ntmps17
  obtain ⟨p0, p1, p2, p3⟩ := BA.out.four
  obtain ⟨b0, b1, b2, b3⟩ := BO.out.four
  obtain ⟨f0, f1, f2, f3⟩ := BO.out.free; have f4 := BO.out.frozen 4
  go_wp2_with fail
  clear p0 p1 p2 p3 b0 b1 b2 b3 f0 f1 f2 f3 f4
  refine (c_toI _ _ _ zs1 _ HL1.out (H.out.r1.on X)).mono ?_; rintro e u1 ⟨a1', c1', rfl, o', x'⟩
  replace BA := Lib.hid (BA.out.on x'); replace BR := Lib.hid (BR.out.on x'); replace BO := Lib.hid (BO.out.on x')
  replace X := X.trans x'
  have O1 := Lib.hid (o'.wide (lo' := w.heap.size + 3) (hi' := u1.heap.size) (by first | omega | (simp; done) | (simp; omega)) (Nat.le_refl _))
  have SZ1 : w.heap.size + 3 ≤ u1.heap.size := Nat.le_trans (by first | omega | (simp; done) | (simp; omega)) x'.size
  clear o' x'
  obtain ⟨p0, p1, p2, p3⟩ := BA.out.four
  obtain ⟨b0, b1, b2, b3⟩ := BO.out.four
  obtain ⟨f0, f1, f2, f3⟩ := BO.out.free; have f4 := BO.out.frozen 4
  go_wp2_with fail
  clear p0 p1 p2 p3 b0 b1 b2 b3 f0 f1 f2 f3 f4
  refine (c_toI _ _ _ zs2 _ HL2.out (H.out.r2.on (Ext.stepS X (by first | omega | (simp; done) | (simp; omega)) _))).mono ?_; rintro e u2 ⟨a2', c2', rfl, o', x'⟩
  have T := Lib.hid (Touch.setCell u1 (a := ⟨w.heap.size + 2, 1, none⟩) (lo := w.heap.size + 2) (hi := w.heap.size + 3) (by simp) (by simp) (.slice a1' zs1.length c1'))
  replace BA := Lib.hid ((BA.out.beside T.out (by omega)).on x')
  replace BR := Lib.hid ((BR.out.beside T.out (by omega)).on x')
  replace BO := Lib.hid ((BO.out.putK 1 (.slice a1' zs1.length c1')).on x')
  replace O1 := Lib.hid ((O1.out.beside T.out (by omega)).on x')
  replace X := (Ext.stepS X (by first | omega | (simp; done) | (simp; omega)) _).trans x'
  clear T
  have O2 := Lib.hid (o'.wide (lo' := u1.heap.size) (hi' := u2.heap.size) (by first | omega | (simp; done) | (simp; omega)) (Nat.le_refl _))
  have SZ2 : u1.heap.size ≤ u2.heap.size := Nat.le_trans (by first | omega | (simp; done) | (simp; omega)) x'.size
  clear o' x'
  obtain ⟨p0, p1, p2, p3⟩ := BA.out.four
  obtain ⟨b0, b1, b2, b3⟩ := BO.out.four
  obtain ⟨f0, f1, f2, f3⟩ := BO.out.free; have f4 := BO.out.frozen 4
  go_wp2_with fail
  clear p0 p1 p2 p3 b0 b1 b2 b3 f0 f1 f2 f3 f4
  refine (c_toI _ _ _ zs3 _ HL3.out (H.out.r3.on (Ext.stepS X (by first | omega | (simp; done) | (simp; omega)) _))).mono ?_; rintro e u3 ⟨a3', c3', rfl, o', x'⟩
  have T := Lib.hid (Touch.setCell u2 (a := ⟨w.heap.size + 2, 2, none⟩) (lo := w.heap.size + 2) (hi := w.heap.size + 3) (by simp) (by simp) (.slice a2' zs2.length c2'))
  replace BA := Lib.hid ((BA.out.beside T.out (by omega)).on x')
  replace BR := Lib.hid ((BR.out.beside T.out (by omega)).on x')
  replace BO := Lib.hid ((BO.out.putK 2 (.slice a2' zs2.length c2')).on x')
  replace O1 := Lib.hid ((O1.out.beside T.out (by omega)).on x')
  replace O2 := Lib.hid ((O2.out.beside T.out (by omega)).on x')
  replace X := (Ext.stepS X (by first | omega | (simp; done) | (simp; omega)) _).trans x'
  clear T
  have O3 := Lib.hid (o'.wide (lo' := u2.heap.size) (hi' := u3.heap.size) (by first | omega | (simp; done) | (simp; omega)) (Nat.le_refl _))
  have SZ3 : u2.heap.size ≤ u3.heap.size := Nat.le_trans (by first | omega | (simp; done) | (simp; omega)) x'.size
  clear o' x'
  obtain ⟨b0, b1, b2, b3⟩ := BO.out.four
  obtain ⟨f0, f1, f2, f3⟩ := BO.out.free; have f4 := BO.out.frozen 4
  obtain ⟨r0, r1, r2, r3⟩ := BR.out.four
  obtain ⟨g0, g1, g2, g3⟩ := BR.out.free; have g4 := BR.out.frozen 4
  have A12 := Lib.hid (O1.out.apart_of O2.out (by first | omega | (simp; done) | (simp; omega)))
  have A13 := Lib.hid (O1.out.apart_of O3.out (by first | omega | (simp; done) | (simp; omega)))
  have A23 := Lib.hid (O2.out.apart_of O3.out (by first | omega | (simp; done) | (simp; omega)))
  go_wp2
  refine bodyPost_ret (v := .agg #[.int .i64 R, .slice a1' zs1.length c1', .slice a2' zs2.length c2', .slice a3' zs3.length c3']) (by simp [results, Try.results17, go_sem, r0, r1, r2, r3]) rfl ⟨a1', c1', a2', c2', a3', c3', rfl, ⟨?_, ?_, ?_, A12.out, A13.out, A23.out⟩, ?_⟩
  · refine own_touch O1.out (lo' := w.heap.size + 1) (hi' := w.heap.size + 3) ?_ (by first | omega | (simp; done) | (simp; omega)) (by first | omega | (simp; done) | (simp; omega)) (by first | omega | (simp; done) | (simp; omega))
    (repeat (first | assumption | exact Touch.refl _ _ _ | (with_reducible refine Touch.stepS ?_ (by first | exact Nat.le_refl _ | (simp; done) | (simp; omega)) (by first | (simp; done) | (simp; omega)) _) | (with_reducible refine Touch.stepN ?_ _) | (with_reducible refine Touch.stepA ?_ _)))
  · refine own_touch O2.out (lo' := w.heap.size + 1) (hi' := w.heap.size + 3) ?_ (by first | omega | (simp; done) | (simp; omega)) (by first | omega | (simp; done) | (simp; omega)) (by first | omega | (simp; done) | (simp; omega))
    (repeat (first | assumption | exact Touch.refl _ _ _ | (with_reducible refine Touch.stepS ?_ (by first | exact Nat.le_refl _ | (simp; done) | (simp; omega)) (by first | (simp; done) | (simp; omega)) _) | (with_reducible refine Touch.stepN ?_ _) | (with_reducible refine Touch.stepA ?_ _)))
  · refine own_touch O3.out (lo' := w.heap.size + 1) (hi' := w.heap.size + 3) ?_ (by first | omega | (simp; done) | (simp; omega)) (by first | omega | (simp; done) | (simp; omega)) (by first | omega | (simp; done) | (simp; omega))
    (repeat (first | assumption | exact Touch.refl _ _ _ | (with_reducible refine Touch.stepS ?_ (by first | exact Nat.le_refl _ | (simp; done) | (simp; omega)) (by first | (simp; done) | (simp; omega)) _) | (with_reducible refine Touch.stepN ?_ _) | (with_reducible refine Touch.stepA ?_ _)))
  · (repeat (first | assumption | exact Ext.refl _ | (with_reducible refine Ext.stepS ?_ (by first | exact Nat.le_refl _ | (simp; done) | (simp; omega)) _) | (with_reducible refine Ext.stepN ?_ _) | (with_reducible refine Ext.stepD ?_) | (with_reducible refine Ext.stepA ?_ _)))
set_option maxHeartbeats 1000000 in
theorem c_eqP (R : Int) (a1 a1' : Option Addr) (cap1 cap1' : Nat) (zs1 : List Int) (a2 a2' : Option Addr) (cap2 cap2' : Nat) (zs2 : List Int) (a3 a3' : Option Addr) (cap3 cap3' : Nat) (zs3 : List Int) (w : World) (hl : zs1.length + zs2.length + zs3.length ≤ 1048576) (h : Reads3 w a1 zs1.length (ints zs1) a2 zs2.length (ints zs2) a3 zs3.length (ints zs3)) (h' : Reads3 w a1' zs1.length (ints zs1) a2' zs2.length (ints zs2) a3' zs3.length (ints zs3)) :
    Calls Try.prog 19 #[.agg #[.int .i64 R, .slice a1 zs1.length cap1, .slice a2 zs2.length cap2, .slice a3 zs3.length cap3], .agg #[.int .i64 R, .slice a1' zs1.length cap1', .slice a2' zs2.length cap2', .slice a3' zs3.length cap3']] w fun e w' => e = .returned (.bool true) ∧ Ext w w' := by
  have HL1 := Lib.hid (show zs1.length ≤ 1048576 by omega)
  have HL2 := Lib.hid (show zs2.length ≤ 1048576 by omega)
  have HL3 := Lib.hid (show zs3.length ≤ 1048576 by omega)
  have H := Lib.hid h; have H' := Lib.hid h'
  clear h h' hl
  have BA := Lib.hid ((Box.alloc w #[.int .i64 R, .slice a1 zs1.length cap1, .slice a2 zs2.length cap2, .slice a3 zs3.length cap3] 26).past (.cells #[.int .i64 R, .slice a1' zs1.length cap1', .slice a2' zs2.length cap2', .slice a3' zs3.length cap3'] 26))
  have BB := Lib.hid (Box.alloc_at (w.alloc (.cells #[.int .i64 R, .slice a1 zs1.length cap1, .slice a2 zs2.length cap2, .slice a3 zs3.length cap3] 26)) #[.int .i64 R, .slice a1' zs1.length cap1', .slice a2' zs2.length cap2', .slice a3' zs3.length cap3'] 26 (b := w.heap.size + 1) (by simp))
  have X := ((Ext.refl w).stepA (.cells #[.int .i64 R, .slice a1 zs1.length cap1, .slice a2 zs2.length cap2, .slice a3 zs3.length cap3] 26)).stepA (.cells #[.int .i64 R, .slice a1' zs1.length cap1', .slice a2' zs2.length cap2', .slice a3' zs3.length cap3'] 26)
  go_enter Try.func19, Try.ntmps19
  obtain ⟨p0, p1, p2, p3⟩ := BA.out.four
  obtain ⟨q0, q1, q2, q3⟩ := BB.out.four
  go_wp2_with fail
  clear p0 q0 p1 q1 p2 q2 p3 q3
  refine (c_eqI_E _ _ _ _ _ zs1 _ HL1.out (H.out.r1.on X) (H'.out.r1.on X)).mono ?_; rintro e u1 ⟨rfl, x'⟩
  replace BA := Lib.hid (BA.out.on x'); replace BB := Lib.hid (BB.out.on x'); replace X := X.trans x'; clear x'
  obtain ⟨p0, p1, p2, p3⟩ := BA.out.four
  obtain ⟨q0, q1, q2, q3⟩ := BB.out.four
  go_wp2_with fail
  clear p0 q0 p1 q1 p2 q2 p3 q3
  refine (c_eqI_E _ _ _ _ _ zs2 _ HL2.out (H.out.r2.on X) (H'.out.r2.on X)).mono ?_; rintro e u2 ⟨rfl, x'⟩
  replace BA := Lib.hid (BA.out.on x'); replace BB := Lib.hid (BB.out.on x'); replace X := X.trans x'; clear x'
  obtain ⟨p0, p1, p2, p3⟩ := BA.out.four
  obtain ⟨q0, q1, q2, q3⟩ := BB.out.four
  go_wp2_with fail
  clear p0 q0 p1 q1 p2 q2 p3 q3
  refine (c_eqI_E _ _ _ _ _ zs3 _ HL3.out (H.out.r3.on X) (H'.out.r3.on X)).mono ?_; rintro e u3 ⟨rfl, x'⟩
  replace BA := Lib.hid (BA.out.on x'); replace BB := Lib.hid (BB.out.on x'); replace X := X.trans x'; clear x'
  go_wp2
  go_ret
  exact ⟨rfl, X⟩
set_option maxHeartbeats 1000000 in
theorem c_markP (R : Int) (lo hi : Nat) (a1 : Option Addr) (n1 cap1 : Nat) (a2 : Option Addr) (n2 cap2 : Nat) (a3 : Option Addr) (n3 cap3 : Nat) (s : Nat) (v1 : List Value) (v2 : List Value) (v3 : List Value) (w : World) (hn : n1 + n2 + n3 ≤ 1048576) (hs : s ≤ 1000000000) (h : Own3 2 2 2 w lo hi a1 n1 cap1 v1 a2 n2 cap2 v2 a3 n3 cap3 v3) (hh : hi ≤ w.heap.size) :
    Calls Try.prog 20 #[.agg #[.int .i64 R, .slice a1 n1 cap1, .slice a2 n2 cap2, .slice a3 n3 cap3], .int .i64 s] w (RetMarkP 2 2 2 lo hi a1 n1 cap1 a2 n2 cap2 a3 n3 cap3 s w) := by
  obtain ⟨s1, hs1⟩ : ∃ r : Nat, s + n1 = r := ⟨_, rfl⟩
  obtain ⟨s2, hs2⟩ : ∃ r : Nat, s1 + n2 = r := ⟨_, rfl⟩
  obtain ⟨s3, hs3⟩ : ∃ r : Nat, s2 + n3 = r := ⟨_, rfl⟩
  have E := Lib.hid (show s + (n1 + n2 + n3) = s3 by omega)
  have P1 := Lib.hid (show s ≤ 1073741824 by omega); have L1 := Lib.hid (show n1 ≤ 1048576 by omega); have D1 := Lib.hid hs1; have M1 := Lib.hid (show s = s by omega)
  have P2 := Lib.hid (show s1 ≤ 1073741824 by omega); have L2 := Lib.hid (show n2 ≤ 1048576 by omega); have D2 := Lib.hid hs2; have M2 := Lib.hid (show s + n1 = s1 by omega)
  have P3 := Lib.hid (show s2 ≤ 1073741824 by omega); have L3 := Lib.hid (show n3 ≤ 1048576 by omega); have D3 := Lib.hid hs3; have M3 := Lib.hid (show s + n1 + n2 = s2 by omega)
  clear hn hs hs1 hs2 hs3
  have BA := Lib.hid (Box.alloc w #[.int .i64 R, .slice a1 n1 cap1, .slice a2 n2 cap2, .slice a3 n3 cap3] 26)
  obtain ⟨o1, o2, o3, p12, p13, p23⟩ := h.on (Ext.alloc w (.cells #[.int .i64 R, .slice a1 n1 cap1, .slice a2 n2 cap2, .slice a3 n3 cap3] 26))
  have O1 := Lib.hid o1
  have O2 := Lib.hid o2
  have O3 := Lib.hid o3
  have A12 := Lib.hid p12
  have A13 := Lib.hid p13
  have A23 := Lib.hid p23
  have TT := Lib.hid (Touch.of_ext (Ext.alloc w (.cells #[.int .i64 R, .slice a1 n1 cap1, .slice a2 n2 cap2, .slice a3 n3 cap3] 26)) lo hi)
  clear h o1 o2 o3 p12 p13 p23
  go_enter Try.func20, Try.ntmps20
  obtain ⟨b0, b1, b2, b3⟩ := BA.out.four
  go_wp2_with fail
  clear b0 b1 b2 b3
  refine (c_markI_k lo hi _ _ _ s _ _ L1.out P1.out O1.out).mono ?_; rintro e u1 ⟨he, o', t', k'⟩; rw [D1.out] at he; subst he
  replace O2 := Lib.hid (k'.own O2.out A12.out.symm)
  replace O3 := Lib.hid (k'.own O3.out A13.out.symm)
  replace O1 := Lib.hid o'; replace BA := Lib.hid (BA.out.beside t' (by omega)); replace TT := Lib.hid (TT.out.trans t'); clear o' t' k'
  obtain ⟨b0, b1, b2, b3⟩ := BA.out.four
  go_wp2_with fail
  clear b0 b1 b2 b3
  refine (c_markI_k lo hi _ _ _ s1 _ _ L2.out P2.out O2.out).mono ?_; rintro e u2 ⟨he, o', t', k'⟩; rw [D2.out] at he; subst he
  replace O1 := Lib.hid (k'.own O1.out A12.out)
  replace O3 := Lib.hid (k'.own O3.out A23.out.symm)
  replace O2 := Lib.hid o'; replace BA := Lib.hid (BA.out.beside t' (by omega)); replace TT := Lib.hid (TT.out.trans t'); clear o' t' k'
  obtain ⟨b0, b1, b2, b3⟩ := BA.out.four
  go_wp2_with fail
  clear b0 b1 b2 b3
  refine (c_markI_k lo hi _ _ _ s2 _ _ L3.out P3.out O3.out).mono ?_; rintro e u3 ⟨he, o', t', k'⟩; rw [D3.out] at he; subst he
  replace O1 := Lib.hid (k'.own O1.out A13.out)
  replace O2 := Lib.hid (k'.own O2.out A23.out)
  replace O3 := Lib.hid o'; replace BA := Lib.hid (BA.out.beside t' (by omega)); replace TT := Lib.hid (TT.out.trans t'); clear o' t' k'
  go_wp2
  go_ret
  have e := E.out; clear E BA
  have m2 := M2.out
  have m3 := M3.out
  refine ⟨by first | (rw [show s + n1 + n2 + n3 = s3 by omega]; done) | (rw [show s + n1 + n2 + n3 = s3 by omega]; rfl), ⟨O1.out, by rw [m2]; exact O2.out, by rw [m3]; exact O3.out, A12.out, A13.out, A23.out⟩, TT.out⟩
set_option maxHeartbeats 1000000 in
theorem c_heldP (R : Int) (a1 : Option Addr) (n1 cap1 : Nat) (a2 : Option Addr) (n2 cap2 : Nat) (a3 : Option Addr) (n3 cap3 : Nat) (s : Nat) (w : World) (hn : n1 + n2 + n3 ≤ 1048576) (hs : s ≤ 1000000000) (h : Reads3 w a1 n1 (ints (marks (s) n1)) a2 n2 (ints (marks (s + n1) n2)) a3 n3 (ints (marks (s + n1 + n2) n3))) :
    Calls Try.prog 21 #[.agg #[.int .i64 R, .slice a1 n1 cap1, .slice a2 n2 cap2, .slice a3 n3 cap3], .int .i64 s] w fun e w' => e = .returned (.int .i64 ((s + n1 + n2 + n3 : Nat) : Int)) ∧ Ext w w' := by
  obtain ⟨s1, hs1⟩ : ∃ r : Nat, s + n1 = r := ⟨_, rfl⟩
  obtain ⟨s2, hs2⟩ : ∃ r : Nat, s1 + n2 = r := ⟨_, rfl⟩
  obtain ⟨s3, hs3⟩ : ∃ r : Nat, s2 + n3 = r := ⟨_, rfl⟩
  have P1 := Lib.hid (show s ≤ 1073741824 by omega); have L1 := Lib.hid (show n1 ≤ 1048576 by omega); have D1 := Lib.hid hs1
  have P2 := Lib.hid (show s1 ≤ 1073741824 by omega); have L2 := Lib.hid (show n2 ≤ 1048576 by omega); have D2 := Lib.hid hs2
  have P3 := Lib.hid (show s2 ≤ 1073741824 by omega); have L3 := Lib.hid (show n3 ≤ 1048576 by omega); have D3 := Lib.hid hs3
  rw [hs1] at h
  rw [hs2] at h
  have z1 : (0 : Int) ≤ (s1 : Int) := by omega
  have z2 : (0 : Int) ≤ (s2 : Int) := by omega
  have z3 : (0 : Int) ≤ (s3 : Int) := by omega
  have E := Lib.hid (show s + n1 + n2 + n3 = s3 by omega)
  have H := Lib.hid h
  clear h hn hs hs1 hs2 hs3
  have BA := Lib.hid (Box.alloc w #[.int .i64 R, .slice a1 n1 cap1, .slice a2 n2 cap2, .slice a3 n3 cap3] 26)
  have X := Ext.alloc w (.cells #[.int .i64 R, .slice a1 n1 cap1, .slice a2 n2 cap2, .slice a3 n3 cap3] 26)
  go_enter Try.func21, Try.ntmps21
  obtain ⟨b0, b1, b2, b3⟩ := BA.out.four
  go_wp2_with fail
  clear b0 b1 b2 b3
  refine (c_heldI_E _ _ _ s _ L1.out P1.out (H.out.r1.on X)).mono ?_; rintro e u1 ⟨he, x'⟩; rw [D1.out] at he; subst he
  replace BA := Lib.hid (BA.out.on x'); replace X := X.trans x'; clear x'
  obtain ⟨b0, b1, b2, b3⟩ := BA.out.four
  go_wp2_with fail
  clear b0 b1 b2 b3
  refine (c_heldI_E _ _ _ s1 _ L2.out P2.out (H.out.r2.on X)).mono ?_; rintro e u2 ⟨he, x'⟩; rw [D2.out] at he; subst he
  replace BA := Lib.hid (BA.out.on x'); replace X := X.trans x'; clear x'
  obtain ⟨b0, b1, b2, b3⟩ := BA.out.four
  go_wp2_with fail
  clear b0 b1 b2 b3
  refine (c_heldI_E _ _ _ s2 _ L3.out P3.out (H.out.r3.on X)).mono ?_; rintro e u3 ⟨he, x'⟩; rw [D3.out] at he; subst he
  replace BA := Lib.hid (BA.out.on x'); replace X := X.trans x'; clear x'
  go_wp2
  go_ret
  exact ⟨by first | (rw [E.out]; done) | (rw [E.out]; rfl), X⟩
end Go.Proofs.Ytfmjohpmfcmpoab
