/- The walk of the law FnExactMergeCells. -/
import Derived.Test.YtfolflkbpdbkcacLcl
import Derived.Test.YtfolflkbpdbkcacMrd
import Derived.Deep.RegionHeld3
import Derived.Deep.DeepCutAuto
import Derived.Deep.LoopGhost
import Derived.WalkLawsBesides
namespace Go.Proofs.Ytfolflkbpdbkcac
open Go.ChangeShapes Go.WideShapes Go.ChangeAt Go.RowKit
set_option linter.unusedVariables false
set_option maxRecDepth 100000 in
set_option maxHeartbeats 40000000 in
theorem walk_FnExactMergeCells (W0 : Int) (D0 : Int) (S0 : Int) (p0_3 : Option Addr) (len0_3 cap0_3 : Nat) (z0_3 : List Int) (W1 : Int) (D1 : Int) (S1 : Int) (p1_3 : Option Addr) (len1_3 cap1_3 : Nat) (z1_3 : List Int) (w : World) (w0_0 : (Lit.int .i64 W0).wf = true) (w0_1 : (Lit.int .i64 D0).wf = true) (w0_2 : (Lit.int .i64 S0).wf = true) (w0_3 : IsRow .i64 w p0_3 len0_3 cap0_3 z0_3) (w1_0 : (Lit.int .i64 W1).wf = true) (w1_1 : (Lit.int .i64 D1).wf = true) (w1_2 : (Lit.int .i64 S1).wf = true) (w1_3 : IsRow .i64 w p1_3 len1_3 cap1_3 z1_3) :
    Calls Try.prog 11 #[.agg #[.int .i64 W0, .int .i64 D0, .int .i64 S0, .slice p0_3 len0_3 cap0_3], .agg #[.int .i64 W1, .int .i64 D1, .int .i64 S1, .slice p1_3 len1_3 cap1_3]] w fun e w' => e = .returned (.bool true) ∧ Below w.heap.size w w' := by
  clear w0_0
  clear w0_1
  clear w0_2
  obtain ⟨h0_3, m0_3⟩ := w0_3.rd
  obtain ⟨zs0, hz0_3⟩ : ∃ zs, z0_3.take len0_3 = zs := ⟨_, rfl⟩
  rw [hz0_3] at h0_3
  have hl0_3 := h0_3.int.1
  subst hl0_3
  have H0_3 := Lib.hid h0_3; have M0_3 := Lib.hid m0_3
  clear hz0_3 h0_3 m0_3 w0_3
  clear w1_0
  clear w1_1
  clear w1_2
  obtain ⟨h1_3, m1_3⟩ := w1_3.rd
  obtain ⟨zs1, hz1_3⟩ : ∃ zs, z1_3.take len1_3 = zs := ⟨_, rfl⟩
  rw [hz1_3] at h1_3
  have hl1_3 := h1_3.int.1
  subst hl1_3
  have H1_3 := Lib.hid h1_3; have M1_3 := Lib.hid m1_3
  clear hz1_3 h1_3 m1_3 w1_3
  have BA0_0 := Lib.hid (Box.past (Box.alloc_at w #[.int .i64 W0, .int .i64 D0, .int .i64 S0, .slice p0_3 zs0.length cap0_3] 52 (b := w.heap.size) (by first | omega | (simp; done) | (simp; omega))) (.cells #[.int .i64 W1, .int .i64 D1, .int .i64 S1, .slice p1_3 zs1.length cap1_3] 52))
  have BA1_0 := Lib.hid (Box.alloc_at (w.alloc (.cells #[.int .i64 W0, .int .i64 D0, .int .i64 S0, .slice p0_3 zs0.length cap0_3] 52)) #[.int .i64 W1, .int .i64 D1, .int .i64 S1, .slice p1_3 zs1.length cap1_3] 52 (b := w.heap.size + 1) (by first | omega | (simp; done) | (simp; omega)))
  have B0 := Lib.hid (show Ext w ((w.alloc (.cells #[.int .i64 W0, .int .i64 D0, .int .i64 S0, .slice p0_3 zs0.length cap0_3] 52)).alloc (.cells #[.int .i64 W1, .int .i64 D1, .int .i64 S1, .slice p1_3 zs1.length cap1_3] 52)) from by (repeat (first | assumption | exact Ext.refl _ | (with_reducible refine Ext.stepS ?_ (by first | exact Nat.le_refl _ | (simp; done) | (simp; omega)) _) | (with_reducible refine Ext.stepN ?_ _) | (with_reducible refine Ext.stepD ?_) | (with_reducible refine Ext.stepA ?_ _))))
  by_cases g0 : 1048576 < zs0.length
  · go_enter Try.func11, Try.ntmps11
    go_wp2_with fail
    refine (c_szC_no W0 D0 S0 _ _ _ 1048576 _ g0 (by decide) M0_3.out).mono ?_; rintro e y1 ⟨rfl, x'⟩
    have X := B0.out.trans x'
    clear x'
    go_wp2
    go_ret
    exact ⟨rfl, X⟩
  have G0 := Lib.hid (show zs0.length ≤ 1048576 by omega)
  clear g0
  by_cases g1 : 1048576 - zs0.length < zs1.length
  · go_enter Try.func11, Try.ntmps11
    have hnn : (0 : Int) ≤ ((1048576 - zs0.length : Nat) : Int) := by omega
    obtain ⟨l1, hl1⟩ : ∃ l, 1048576 - zs0.length = l := ⟨_, rfl⟩
    have HL1 := Lib.hid hl1
    rw [hl1] at g1 hnn
    have hl2 : l1 ≤ 1048576 := by omega
    clear hl1
    go_wp2_with fail
    refine (c_szC_ok W0 D0 S0 _ _ _ 1048576 _ G0.out (by decide)).mono ?_; rw [HL1.out]; rintro e y1 ⟨rfl, x'⟩
    have X := B0.out.trans x'
    obtain ⟨f0, f1, f2, f3⟩ := (BA1_0.out.on x').four
    clear x'
    go_wp2_with fail
    refine (c_szC_no W1 D1 S1 _ _ _ l1 _ g1 hl2 M1_3.out).mono ?_; rintro e y2 ⟨rfl, x'⟩
    have X2 := X.trans x'
    clear x' f0 f1 f2 f3
    go_wp2
    go_ret
    exact ⟨rfl, X2⟩
  have G1 := Lib.hid (show zs1.length ≤ 1048576 by omega)
  have G01 := Lib.hid (show zs1.length ≤ 1048576 - zs0.length by omega)
  clear g1
  obtain ⟨rW, rD, rS, rz, rb, hR⟩ : ∃ W D S z b, mergeR W0 D0 S0 zs0 W1 D1 S1 zs1 = ((⟨W, D, S, z⟩ : CV), b) := ⟨_, _, _, _, _, rfl⟩
  have RL := Lib.hid (show rz.length ≤ 1048576 from mergeR_le hR)
  have HV := Lib.hid hR
  clear hR
  go_enter Try.func11, Try.ntmps11
  obtain ⟨l1, hl1⟩ : ∃ l, 1048576 - zs0.length = l := ⟨_, rfl⟩
  have HL1 := Lib.hid hl1
  have hnn : (0 : Int) ≤ (l1 : Int) := by omega
  have hl2 := Lib.hid (show l1 ≤ 1048576 by omega)
  clear hl1
  obtain ⟨l2, hl3⟩ : ∃ l, l1 - zs1.length = l := ⟨_, rfl⟩
  have HL2 := Lib.hid hl3
  have hnn2 : (0 : Int) ≤ (l2 : Int) := by omega
  clear hl3
  go_wp2_with fail
  refine (c_szC_ok W0 D0 S0 _ _ _ 1048576 _ G0.out (by decide)).mono ?_; rw [HL1.out]; rintro e y1 ⟨rfl, x'⟩
  have B1 := Lib.hid (B0.out.trans x')
  have BA0_1 := Lib.hid (BA0_0.out.on x')
  have BA1_1 := Lib.hid (BA1_0.out.on x')
  have SZ1 := Lib.hid (show w.heap.size + 2 ≤ y1.heap.size from Nat.le_trans (by first | omega | (simp; done) | (simp; omega)) x'.size); clear x'
  obtain ⟨fA10, fA11, fA12, fA13⟩ := BA1_1.out.four
  go_wp2_with fail
  clear fA10 fA11 fA12 fA13
  refine (c_szC_ok W1 D1 S1 _ _ _ l1 _ (by have := G01.out; have := HL1.out; omega) hl2.out).mono ?_; rw [HL2.out]; rintro e y2 ⟨rfl, x'⟩
  have B2 := Lib.hid (B1.out.trans x')
  have BA0_2 := Lib.hid (BA0_1.out.on x')
  have BA1_2 := Lib.hid (BA1_1.out.on x')
  have SZ2 := Lib.hid (show y1.heap.size ≤ y2.heap.size from Nat.le_trans (by first | omega | (simp; done) | (simp; omega)) x'.size); clear x'
  have hA0 : w.heap.size < y2.heap.size := by have := SZ1.out; have := SZ2.out; omega
  have nA0 : w.heap.size ≠ y2.heap.size := by omega
  have nB0 : y2.heap.size ≠ w.heap.size := by omega
  have hA1 : w.heap.size + 1 < y2.heap.size := by have := SZ1.out; have := SZ2.out; omega
  have nA1 : w.heap.size + 1 ≠ y2.heap.size := by omega
  have nB1 : y2.heap.size ≠ w.heap.size + 1 := by omega
  obtain ⟨fA00, fA01, fA02, fA03⟩ := BA0_2.out.four
  obtain ⟨fA10, fA11, fA12, fA13⟩ := BA1_2.out.four
  go_upto_region 8 with fail
  go_cut [6, 7] (fun s6 s7 wx => ∃ nb a c, s6 = .pointer (some ⟨nb, 0, none⟩) ∧ s7 = .bool rb ∧ Box wx nb 54 #[.int .i64 rW, .int .i64 rD, .int .i64 rS, .slice a rz.length c] ∧ Own 2 wx y2.heap.size wx.heap.size a rz.length c (ints rz) ∧ y2.heap.size ≤ nb ∧ Ext y2 wx)
  case first =>
    first | (go_region_held3 (fun w' => w'.cell? ⟨w.heap.size, 0, none⟩ = some (.int .i64 W0) ∧ w'.cell? ⟨w.heap.size, 1, none⟩ = some (.int .i64 D0) ∧ w'.cell? ⟨w.heap.size, 2, none⟩ = some (.int .i64 S0) ∧ w'.cell? ⟨w.heap.size, 3, none⟩ = some (.slice p0_3 zs0.length cap0_3) ∧ w'.cell? ⟨w.heap.size + 1, 0, none⟩ = some (.int .i64 W1) ∧ w'.cell? ⟨w.heap.size + 1, 1, none⟩ = some (.int .i64 D1) ∧ w'.cell? ⟨w.heap.size + 1, 2, none⟩ = some (.int .i64 S1) ∧ w'.cell? ⟨w.heap.size + 1, 3, none⟩ = some (.slice p1_3 zs1.length cap1_3)) (first | exact ⟨K0.1, K0.2.1, K0.2.2.1, K0.2.2.2, K1.1, K1.2.1, K1.2.2.1, K1.2.2.2⟩ | go_keep) (first | (go_at_call_of 43 (Value.agg #[.int .i64 W0, .int .i64 D0, .int .i64 S0, .slice p0_3 zs0.length cap0_3]); refine (c_toC W0 D0 S0 _ _ _ zs0 _ G0.out (H0_3.out.on (B2.out.trans (by (repeat (first | assumption | exact Ext.refl _ | (with_reducible refine Ext.stepS ?_ (by first | exact Nat.le_refl _ | (simp; done) | (simp; omega)) _) | (with_reducible refine Ext.stepN ?_ _) | (with_reducible refine Ext.stepD ?_) | (with_reducible refine Ext.stepA ?_ _))))))).mono ?_; rintro e v0 ⟨as0, cs0, rfl, o', x'⟩; have EA : Ext y2 v0 := Ext.trans (by (repeat (first | assumption | exact Ext.refl _ | (with_reducible refine Ext.stepS ?_ (by first | exact Nat.le_refl _ | (simp; done) | (simp; omega)) _) | (with_reducible refine Ext.stepN ?_ _) | (with_reducible refine Ext.stepD ?_) | (with_reducible refine Ext.stepA ?_ _)))) x'; have ES0 := EA.size; have K0 := (BA0_2.out.on EA).four; have K1 := (BA1_2.out.on EA).four; (first | (revert NB; intro NB; have NB2 := Lib.hid (NB.out.on (Ext.trans (by (repeat (first | assumption | exact Ext.refl _ | (with_reducible refine Ext.stepS ?_ (by first | exact Nat.le_refl _ | (simp; done) | (simp; omega)) _) | (with_reducible refine Ext.stepN ?_ _) | (with_reducible refine Ext.stepD ?_) | (with_reducible refine Ext.stepA ?_ _)))) x')); clear NB; have NB := NB2; clear NB2) | (have QX := x'; change Ext (World.alloc y2 (.cells #[.int .i64 0, .int .i64 0, .int .i64 0, .slice none 0 0] 54)) _ at QX; have NB := Lib.hid (Box.on (Box.alloc y2 _ _) QX); clear QX) | (have QX := x'; change Ext (World.drew (World.alloc y2 (.cells #[.int .i64 0, .int .i64 0, .int .i64 0, .slice none 0 0] 54))) _ at QX; have NB := Lib.hid (Box.on (Box.alloc y2 _ _) (Ext.trans (Ext.drew _) QX)); clear QX) | skip); (try (revert NB; intro NB; have LBv0 := NB.out.lt)); have mv00 : w.heap.size ≠ v0.heap.size := (by have := EA.size; omega); have lv00 : v0.heap.size ≠ w.heap.size := (by have := EA.size; omega); have mv01 : w.heap.size + 1 ≠ v0.heap.size := (by have := EA.size; omega); have lv01 : v0.heap.size ≠ w.heap.size + 1 := (by have := EA.size; omega); have Os0 := Lib.hid o'; (try (have OO := Lib.hid (Os1.out.on (Ext.trans (by (repeat (first | assumption | exact Ext.refl _ | (with_reducible refine Ext.stepS ?_ (by first | exact Nat.le_refl _ | (simp; done) | (simp; omega)) _) | (with_reducible refine Ext.stepN ?_ _) | (with_reducible refine Ext.stepD ?_) | (with_reducible refine Ext.stepA ?_ _)))) x')); clear Os1; have Os1 := OO; clear OO)); clear o' x') | (go_at_call_of 43 (Value.agg #[.int .i64 W1, .int .i64 D1, .int .i64 S1, .slice p1_3 zs1.length cap1_3]); refine (c_toC W1 D1 S1 _ _ _ zs1 _ G1.out (H1_3.out.on (B2.out.trans (by (repeat (first | assumption | exact Ext.refl _ | (with_reducible refine Ext.stepS ?_ (by first | exact Nat.le_refl _ | (simp; done) | (simp; omega)) _) | (with_reducible refine Ext.stepN ?_ _) | (with_reducible refine Ext.stepD ?_) | (with_reducible refine Ext.stepA ?_ _))))))).mono ?_; rintro e v1 ⟨as1, cs1, rfl, o', x'⟩; have EA : Ext y2 v1 := Ext.trans (by (repeat (first | assumption | exact Ext.refl _ | (with_reducible refine Ext.stepS ?_ (by first | exact Nat.le_refl _ | (simp; done) | (simp; omega)) _) | (with_reducible refine Ext.stepN ?_ _) | (with_reducible refine Ext.stepD ?_) | (with_reducible refine Ext.stepA ?_ _)))) x'; have ES1 := EA.size; have K0 := (BA0_2.out.on EA).four; have K1 := (BA1_2.out.on EA).four; (first | (revert NB; intro NB; have NB2 := Lib.hid (NB.out.on (Ext.trans (by (repeat (first | assumption | exact Ext.refl _ | (with_reducible refine Ext.stepS ?_ (by first | exact Nat.le_refl _ | (simp; done) | (simp; omega)) _) | (with_reducible refine Ext.stepN ?_ _) | (with_reducible refine Ext.stepD ?_) | (with_reducible refine Ext.stepA ?_ _)))) x')); clear NB; have NB := NB2; clear NB2) | (have QX := x'; change Ext (World.alloc v0 (.cells #[.int .i64 0, .int .i64 0, .int .i64 0, .slice none 0 0] 54)) _ at QX; have NB := Lib.hid (Box.on (Box.alloc v0 _ _) QX); clear QX) | (have QX := x'; change Ext (World.drew (World.alloc v0 (.cells #[.int .i64 0, .int .i64 0, .int .i64 0, .slice none 0 0] 54))) _ at QX; have NB := Lib.hid (Box.on (Box.alloc v0 _ _) (Ext.trans (Ext.drew _) QX)); clear QX) | skip); (try (revert NB; intro NB; have LBv1 := NB.out.lt)); have mv10 : w.heap.size ≠ v1.heap.size := (by have := EA.size; omega); have lv10 : v1.heap.size ≠ w.heap.size := (by have := EA.size; omega); have mv11 : w.heap.size + 1 ≠ v1.heap.size := (by have := EA.size; omega); have lv11 : v1.heap.size ≠ w.heap.size + 1 := (by have := EA.size; omega); have Os1 := Lib.hid o'; (try (have OO := Lib.hid (Os0.out.on (Ext.trans (by (repeat (first | assumption | exact Ext.refl _ | (with_reducible refine Ext.stepS ?_ (by first | exact Nat.le_refl _ | (simp; done) | (simp; omega)) _) | (with_reducible refine Ext.stepN ?_ _) | (with_reducible refine Ext.stepD ?_) | (with_reducible refine Ext.stepA ?_ _)))) x')); clear Os0; have Os0 := OO; clear OO)); clear o' x') | (go_at_call 42; refine (c_spec_MergeCells W0 D0 S0 _ _ _ zs0 W1 D1 S1 _ _ _ zs1 _ HV.out (by have := G0.out; unfold maxLen; omega) (Os0.out.on (by (repeat (first | assumption | exact Ext.refl _ | (with_reducible refine Ext.stepS ?_ (by first | exact Nat.le_refl _ | (simp; done) | (simp; omega)) _) | (with_reducible refine Ext.stepN ?_ _) | (with_reducible refine Ext.stepD ?_) | (with_reducible refine Ext.stepA ?_ _))))).reads (by have := G1.out; unfold maxLen; omega) (Os1.out.on (by (repeat (first | assumption | exact Ext.refl _ | (with_reducible refine Ext.stepS ?_ (by first | exact Nat.le_refl _ | (simp; done) | (simp; omega)) _) | (with_reducible refine Ext.stepN ?_ _) | (with_reducible refine Ext.stepD ?_) | (with_reducible refine Ext.stepA ?_ _))))).reads).mono ?_; rintro e vf ⟨a_f, c_f, rfl, ow, x'⟩; have EA : Ext y2 vf := Ext.trans (by (repeat (first | assumption | exact Ext.refl _ | (with_reducible refine Ext.stepS ?_ (by first | exact Nat.le_refl _ | (simp; done) | (simp; omega)) _) | (with_reducible refine Ext.stepN ?_ _) | (with_reducible refine Ext.stepD ?_) | (with_reducible refine Ext.stepA ?_ _)))) x'; have EH := Lib.hid EA; have K0 := (BA0_2.out.on EA).four; have K1 := (BA1_2.out.on EA).four; have ESf := EA.size; (first | (revert NB; intro NB; have NB2 := Lib.hid (NB.out.on (Ext.trans (by (repeat (first | assumption | exact Ext.refl _ | (with_reducible refine Ext.stepS ?_ (by first | exact Nat.le_refl _ | (simp; done) | (simp; omega)) _) | (with_reducible refine Ext.stepN ?_ _) | (with_reducible refine Ext.stepD ?_) | (with_reducible refine Ext.stepA ?_ _)))) x')); clear NB; have NB := NB2; clear NB2) | (have QX := x'; change Ext (World.alloc v1 (.cells #[.int .i64 0, .int .i64 0, .int .i64 0, .slice none 0 0] 54)) _ at QX; have NB := Lib.hid (Box.on (Box.alloc v1 _ _) QX); clear QX) | (have QX := x'; change Ext (World.drew (World.alloc v1 (.cells #[.int .i64 0, .int .i64 0, .int .i64 0, .slice none 0 0] 54))) _ at QX; have NB := Lib.hid (Box.on (Box.alloc v1 _ _) (Ext.trans (Ext.drew _) QX)); clear QX) | skip); (try (revert NB; intro NB; have LBvf := NB.out.lt)); have mvf0 : w.heap.size ≠ vf.heap.size := (by have := EA.size; omega); have lvf0 : vf.heap.size ≠ w.heap.size := (by have := EA.size; omega); have mvf1 : w.heap.size + 1 ≠ vf.heap.size := (by have := EA.size; omega); have lvf1 : vf.heap.size ≠ w.heap.size + 1 := (by have := EA.size; omega); (try (revert NB; intro NB; obtain ⟨z0, z1, z2, z3⟩ := NB.out.four; obtain ⟨j0, j1, j2, j3⟩ := NB.out.free)); have OW := Lib.hid ow; clear ow x'))) | fail
    all_goals
      go_wp2_with fail
      go_meet
      first
        | (with_reducible refine ⟨_, a_f, c_f, rfl, rfl, Box.alloc _ _ _, ?_, ?_, ?_⟩; exact (OW.out.on (Ext.alloc _ _)).wide (by first | omega | (simp; done) | (simp; omega)) (by first | omega | (simp; done) | (simp; omega)); exact EH.out.size; exact EH.out.stepA _)
        | (refine ⟨_, a_f, c_f, rfl, rfl, ((((NB.out.put 0 _).put 1 _).put 2 _).put 3 _), own_touch OW.out (lo' := y2.heap.size) (hi' := y2.heap.size + 1) ?_ (Or.inr ?_) ?_ ?_, ?_, ?_⟩ <;> first | omega | ((repeat (first | assumption | exact Touch.refl _ _ _ | (with_reducible refine Touch.stepS ?_ (by first | exact Nat.le_refl _ | (simp; done) | (simp; omega)) (by first | (simp; done) | (simp; omega)) _) | (with_reducible refine Touch.stepN ?_ _) | (with_reducible refine Touch.stepA ?_ _))); done) | (have EH' := EH.out; (repeat (first | assumption | exact Ext.refl _ | (with_reducible refine Ext.stepS ?_ (by first | exact Nat.le_refl _ | (simp; done) | (simp; omega)) _) | (with_reducible refine Ext.stepN ?_ _) | (with_reducible refine Ext.stepD ?_) | (with_reducible refine Ext.stepA ?_ _))); done) | (simp; done) | (simp; omega))
        | (refine ⟨_, a_f, c_f, rfl, rfl, ((((NB.out.put 0 _).put 1 _).put 2 _).put 3 _), own_touch OW.out (lo' := v0.heap.size) (hi' := v0.heap.size + 1) ?_ (Or.inr ?_) ?_ ?_, ?_, ?_⟩ <;> first | omega | ((repeat (first | assumption | exact Touch.refl _ _ _ | (with_reducible refine Touch.stepS ?_ (by first | exact Nat.le_refl _ | (simp; done) | (simp; omega)) (by first | (simp; done) | (simp; omega)) _) | (with_reducible refine Touch.stepN ?_ _) | (with_reducible refine Touch.stepA ?_ _))); done) | (have EH' := EH.out; (repeat (first | assumption | exact Ext.refl _ | (with_reducible refine Ext.stepS ?_ (by first | exact Nat.le_refl _ | (simp; done) | (simp; omega)) _) | (with_reducible refine Ext.stepN ?_ _) | (with_reducible refine Ext.stepD ?_) | (with_reducible refine Ext.stepA ?_ _))); done) | (simp; done) | (simp; omega))
        | (refine ⟨_, a_f, c_f, rfl, rfl, ((((NB.out.put 0 _).put 1 _).put 2 _).put 3 _), own_touch OW.out (lo' := v1.heap.size) (hi' := v1.heap.size + 1) ?_ (Or.inr ?_) ?_ ?_, ?_, ?_⟩ <;> first | omega | ((repeat (first | assumption | exact Touch.refl _ _ _ | (with_reducible refine Touch.stepS ?_ (by first | exact Nat.le_refl _ | (simp; done) | (simp; omega)) (by first | (simp; done) | (simp; omega)) _) | (with_reducible refine Touch.stepN ?_ _) | (with_reducible refine Touch.stepA ?_ _))); done) | (have EH' := EH.out; (repeat (first | assumption | exact Ext.refl _ | (with_reducible refine Ext.stepS ?_ (by first | exact Nat.le_refl _ | (simp; done) | (simp; omega)) _) | (with_reducible refine Ext.stepN ?_ _) | (with_reducible refine Ext.stepD ?_) | (with_reducible refine Ext.stepA ?_ _))); done) | (simp; done) | (simp; omega))
  case rest =>
    obtain ⟨nb_w, a_w, c_w, rfl, rfl, hbox, hown, hnb, x'⟩ := hcut
    obtain ⟨zc3, hz⟩ : ∃ z, z = wc := ⟨_, rfl⟩; subst hz
    clear fA00 fA01 fA02 fA03 fA10 fA11 fA12 fA13
    have B3 := Lib.hid (B2.out.trans x')
    have BA0_3 := Lib.hid (BA0_2.out.on x')
    have BA1_3 := Lib.hid (BA1_2.out.on x')
    have SZ3 := Lib.hid (show y2.heap.size ≤ zc3.heap.size from x'.size); clear x'
    have Bw_3 := Lib.hid hbox; have SB3 := Lib.hid hbox.lt; have SN3 := Lib.hid hnb; have Ow_3 := Lib.hid hown; clear hbox hown hnb
    obtain ⟨fA00, fA01, fA02, fA03⟩ := BA0_3.out.four
    go_wp2_with fail
    clear fA00 fA01 fA02 fA03
    refine (c_toC W0 D0 S0 _ _ _ zs0 _ G0.out (H0_3.out.on B3.out)).mono ?_; rintro e y4 ⟨a_x0, c_x0, rfl, o', x'⟩
    have B4 := Lib.hid (B3.out.trans x')
    have BA0_4 := Lib.hid (BA0_3.out.on x')
    have BA1_4 := Lib.hid (BA1_3.out.on x')
    have Bw_4 := Lib.hid (Bw_3.out.on x')
    have Ow_4 := Lib.hid (Ow_3.out.on x')
    have Ox0_4 := Lib.hid (o'.wide (lo' := zc3.heap.size) (hi' := y4.heap.size) (by first | omega | (simp; done) | (simp; omega)) (Nat.le_refl _)); clear o'
    have SZ4 := Lib.hid (show zc3.heap.size ≤ y4.heap.size from Nat.le_trans (by first | omega | (simp; done) | (simp; omega)) x'.size); clear x'
    replace B4 := Lib.hid (B4.out.stepA (.cells #[.int .i64 W0, .int .i64 D0, .int .i64 S0, .slice a_x0 zs0.length c_x0] 54))
    replace BA0_4 := Lib.hid (BA0_4.out.past (.cells #[.int .i64 W0, .int .i64 D0, .int .i64 S0, .slice a_x0 zs0.length c_x0] 54))
    replace BA1_4 := Lib.hid (BA1_4.out.past (.cells #[.int .i64 W0, .int .i64 D0, .int .i64 S0, .slice a_x0 zs0.length c_x0] 54))
    replace Bw_4 := Lib.hid (Bw_4.out.past (.cells #[.int .i64 W0, .int .i64 D0, .int .i64 S0, .slice a_x0 zs0.length c_x0] 54))
    replace Ow_4 := Lib.hid (Ow_4.out.on (Ext.alloc y4 (.cells #[.int .i64 W0, .int .i64 D0, .int .i64 S0, .slice a_x0 zs0.length c_x0] 54)))
    replace Ox0_4 := Lib.hid (Ox0_4.out.on (Ext.alloc y4 (.cells #[.int .i64 W0, .int .i64 D0, .int .i64 S0, .slice a_x0 zs0.length c_x0] 54)))
    have Bx0_4 := Lib.hid (Box.alloc y4 #[.int .i64 W0, .int .i64 D0, .int .i64 S0, .slice a_x0 zs0.length c_x0] 54)
    obtain ⟨fA10, fA11, fA12, fA13⟩ := BA1_4.out.four
    go_wp2_with fail
    clear fA10 fA11 fA12 fA13
    refine (c_toC W1 D1 S1 _ _ _ zs1 _ G1.out (H1_3.out.on B4.out)).mono ?_; rintro e y5 ⟨a_x1, c_x1, rfl, o', x'⟩
    have B5 := Lib.hid (B4.out.trans x')
    have BA0_5 := Lib.hid (BA0_4.out.on x')
    have BA1_5 := Lib.hid (BA1_4.out.on x')
    have Bw_5 := Lib.hid (Bw_4.out.on x')
    have Bx0_5 := Lib.hid (Bx0_4.out.on x')
    have Ow_5 := Lib.hid (Ow_4.out.on x')
    have Ox0_5 := Lib.hid (Ox0_4.out.on x')
    have Ox1_5 := Lib.hid (o'.wide (lo' := y4.heap.size + 1) (hi' := y5.heap.size) (by first | omega | (simp; done) | (simp; omega)) (Nat.le_refl _)); clear o'
    have SZ5 := Lib.hid (show y4.heap.size + 1 ≤ y5.heap.size from Nat.le_trans (by first | omega | (simp; done) | (simp; omega)) x'.size); clear x'
    replace B5 := Lib.hid (B5.out.stepA (.cells #[.int .i64 W1, .int .i64 D1, .int .i64 S1, .slice a_x1 zs1.length c_x1] 54))
    replace BA0_5 := Lib.hid (BA0_5.out.past (.cells #[.int .i64 W1, .int .i64 D1, .int .i64 S1, .slice a_x1 zs1.length c_x1] 54))
    replace BA1_5 := Lib.hid (BA1_5.out.past (.cells #[.int .i64 W1, .int .i64 D1, .int .i64 S1, .slice a_x1 zs1.length c_x1] 54))
    replace Bw_5 := Lib.hid (Bw_5.out.past (.cells #[.int .i64 W1, .int .i64 D1, .int .i64 S1, .slice a_x1 zs1.length c_x1] 54))
    replace Bx0_5 := Lib.hid (Bx0_5.out.past (.cells #[.int .i64 W1, .int .i64 D1, .int .i64 S1, .slice a_x1 zs1.length c_x1] 54))
    replace Ow_5 := Lib.hid (Ow_5.out.on (Ext.alloc y5 (.cells #[.int .i64 W1, .int .i64 D1, .int .i64 S1, .slice a_x1 zs1.length c_x1] 54)))
    replace Ox0_5 := Lib.hid (Ox0_5.out.on (Ext.alloc y5 (.cells #[.int .i64 W1, .int .i64 D1, .int .i64 S1, .slice a_x1 zs1.length c_x1] 54)))
    replace Ox1_5 := Lib.hid (Ox1_5.out.on (Ext.alloc y5 (.cells #[.int .i64 W1, .int .i64 D1, .int .i64 S1, .slice a_x1 zs1.length c_x1] 54)))
    have Bx1_5 := Lib.hid (Box.alloc y5 #[.int .i64 W1, .int .i64 D1, .int .i64 S1, .slice a_x1 zs1.length c_x1] 54)
    obtain ⟨fx00, fx01, fx02, fx03⟩ := Bx0_5.out.four
    obtain ⟨fx10, fx11, fx12, fx13⟩ := Bx1_5.out.four
    go_wp2_with fail
    clear fx00 fx01 fx02 fx03 fx10 fx11 fx12 fx13
    refine (c_impl_MergeCells W0 D0 S0 _ _ _ zs0 W1 D1 S1 _ _ _ zs1 _ HV.out (by have := G0.out; unfold maxLen; omega) Ox0_5.out.reads (by have := G1.out; unfold maxLen; omega) Ox1_5.out.reads).mono ?_; rintro e y6 ⟨a_g, c_g, rfl, o', x'⟩
    have B6 := Lib.hid (B5.out.trans x')
    have BA0_6 := Lib.hid (BA0_5.out.on x')
    have BA1_6 := Lib.hid (BA1_5.out.on x')
    have Bw_6 := Lib.hid (Bw_5.out.on x')
    have Bx0_6 := Lib.hid (Bx0_5.out.on x')
    have Bx1_6 := Lib.hid (Bx1_5.out.on x')
    have Ow_6 := Lib.hid (Ow_5.out.on x')
    have Ox0_6 := Lib.hid (Ox0_5.out.on x')
    have Ox1_6 := Lib.hid (Ox1_5.out.on x')
    have Og_6 := Lib.hid (o'.wide (lo' := y5.heap.size + 1) (hi' := y6.heap.size) (by first | omega | (simp; done) | (simp; omega)) (Nat.le_refl _)); clear o'
    have SZ6 := Lib.hid (show y5.heap.size + 1 ≤ y6.heap.size from Nat.le_trans (by first | omega | (simp; done) | (simp; omega)) x'.size); clear x'
    replace B6 := Lib.hid (B6.out.stepA (.cells #[.int .i64 rW, .int .i64 rD, .int .i64 rS, .slice a_g rz.length c_g] 54))
    replace BA0_6 := Lib.hid (BA0_6.out.past (.cells #[.int .i64 rW, .int .i64 rD, .int .i64 rS, .slice a_g rz.length c_g] 54))
    replace BA1_6 := Lib.hid (BA1_6.out.past (.cells #[.int .i64 rW, .int .i64 rD, .int .i64 rS, .slice a_g rz.length c_g] 54))
    replace Bw_6 := Lib.hid (Bw_6.out.past (.cells #[.int .i64 rW, .int .i64 rD, .int .i64 rS, .slice a_g rz.length c_g] 54))
    replace Bx0_6 := Lib.hid (Bx0_6.out.past (.cells #[.int .i64 rW, .int .i64 rD, .int .i64 rS, .slice a_g rz.length c_g] 54))
    replace Bx1_6 := Lib.hid (Bx1_6.out.past (.cells #[.int .i64 rW, .int .i64 rD, .int .i64 rS, .slice a_g rz.length c_g] 54))
    replace Ow_6 := Lib.hid (Ow_6.out.on (Ext.alloc y6 (.cells #[.int .i64 rW, .int .i64 rD, .int .i64 rS, .slice a_g rz.length c_g] 54)))
    replace Ox0_6 := Lib.hid (Ox0_6.out.on (Ext.alloc y6 (.cells #[.int .i64 rW, .int .i64 rD, .int .i64 rS, .slice a_g rz.length c_g] 54)))
    replace Ox1_6 := Lib.hid (Ox1_6.out.on (Ext.alloc y6 (.cells #[.int .i64 rW, .int .i64 rD, .int .i64 rS, .slice a_g rz.length c_g] 54)))
    replace Og_6 := Lib.hid (Og_6.out.on (Ext.alloc y6 (.cells #[.int .i64 rW, .int .i64 rD, .int .i64 rS, .slice a_g rz.length c_g] 54)))
    have Bg_6 := Lib.hid (Box.alloc y6 #[.int .i64 rW, .int .i64 rD, .int .i64 rS, .slice a_g rz.length c_g] 54)
    obtain ⟨fg0, fg1, fg2, fg3⟩ := Bg_6.out.four
    obtain ⟨fw0, fw1, fw2, fw3⟩ := Bw_6.out.four
    go_wp2_with fail
    clear fg0 fg1 fg2 fg3 fw0 fw1 fw2 fw3
    refine (c_eqC rW rD rS _ _ _ _ _ rz _ RL.out Og_6.out.reads Ow_6.out.reads).mono ?_; rintro e y7 ⟨rfl, x'⟩
    have B7 := Lib.hid (B6.out.trans x')
    have BA0_7 := Lib.hid (BA0_6.out.on x')
    have BA1_7 := Lib.hid (BA1_6.out.on x')
    have Bw_7 := Lib.hid (Bw_6.out.on x')
    have Bx0_7 := Lib.hid (Bx0_6.out.on x')
    have Bx1_7 := Lib.hid (Bx1_6.out.on x')
    have Bg_7 := Lib.hid (Bg_6.out.on x')
    have Ow_7 := Lib.hid (Ow_6.out.on x')
    have Ox0_7 := Lib.hid (Ox0_6.out.on x')
    have Ox1_7 := Lib.hid (Ox1_6.out.on x')
    have Og_7 := Lib.hid (Og_6.out.on x')
    have SZ7 := Lib.hid (show y6.heap.size + 1 ≤ y7.heap.size from Nat.le_trans (by first | omega | (simp; done) | (simp; omega)) x'.size); clear x'
    obtain ⟨fA00, fA01, fA02, fA03⟩ := BA0_7.out.four
    obtain ⟨fx00, fx01, fx02, fx03⟩ := Bx0_7.out.four
    go_wp2_with fail
    go_region_held3 (fun w' => w'.cell? ⟨w.heap.size, 0, none⟩ = some (.int .i64 W0) ∧ w'.cell? ⟨w.heap.size, 1, none⟩ = some (.int .i64 D0) ∧ w'.cell? ⟨w.heap.size, 2, none⟩ = some (.int .i64 S0) ∧ w'.cell? ⟨w.heap.size, 3, none⟩ = some (.slice p0_3 zs0.length cap0_3) ∧ w'.cell? ⟨y4.heap.size, 0, none⟩ = some (.int .i64 W0) ∧ w'.cell? ⟨y4.heap.size, 1, none⟩ = some (.int .i64 D0) ∧ w'.cell? ⟨y4.heap.size, 2, none⟩ = some (.int .i64 S0) ∧ w'.cell? ⟨y4.heap.size, 3, none⟩ = some (.slice a_x0 zs0.length c_x0)) (first | exact ⟨KA.1, KA.2.1, KA.2.2.1, KA.2.2.2, KX.1, KX.2.1, KX.2.2.1, KX.2.2.2⟩ | go_keep) (first | (go_at_call 43; refine (c_toC W0 D0 S0 _ _ _ zs0 _ G0.out (H0_3.out.on B7.out.stepD)).mono ?_; rintro e y8 ⟨a_t0, c_t0, rfl, o', x'⟩; have B8 := Lib.hid (B7.out.stepD.trans x'); have BA0_8 := Lib.hid ((BA0_7.out.on (Ext.drew _)).on x'); have BA1_8 := Lib.hid ((BA1_7.out.on (Ext.drew _)).on x'); have Bw_8 := Lib.hid ((Bw_7.out.on (Ext.drew _)).on x'); have Bx0_8 := Lib.hid ((Bx0_7.out.on (Ext.drew _)).on x'); have Bx1_8 := Lib.hid ((Bx1_7.out.on (Ext.drew _)).on x'); have Bg_8 := Lib.hid ((Bg_7.out.on (Ext.drew _)).on x'); have Ow_8 := Lib.hid ((Ow_7.out.on (Ext.drew _)).on x'); have Ox0_8 := Lib.hid ((Ox0_7.out.on (Ext.drew _)).on x'); have Ox1_8 := Lib.hid ((Ox1_7.out.on (Ext.drew _)).on x'); have Og_8 := Lib.hid ((Og_7.out.on (Ext.drew _)).on x'); have Ot0_8 := Lib.hid (o'.wide (lo' := y7.heap.size) (hi' := y8.heap.size) (by first | omega | (simp; done) | (simp; omega)) (Nat.le_refl _)); have SZ8 := Lib.hid (show y7.heap.size ≤ y8.heap.size from Nat.le_trans (by first | omega | (simp; done) | (simp; omega)) x'.size); have KA := BA0_8.out.four; have KX := Bx0_8.out.four; clear o' x') | (go_at_call 45; refine (c_eqC W0 D0 S0 _ _ _ _ _ zs0 _ G0.out Ox0_8.out.reads Ot0_8.out.reads).mono ?_; rintro e y9 ⟨rfl, x'⟩; have B9 := Lib.hid (B8.out.trans x'); have BA0_9 := Lib.hid (BA0_8.out.on x'); have BA1_9 := Lib.hid (BA1_8.out.on x'); have Bw_9 := Lib.hid (Bw_8.out.on x'); have Bx0_9 := Lib.hid (Bx0_8.out.on x'); have Bx1_9 := Lib.hid (Bx1_8.out.on x'); have Bg_9 := Lib.hid (Bg_8.out.on x'); have Ow_9 := Lib.hid (Ow_8.out.on x'); have Ox0_9 := Lib.hid (Ox0_8.out.on x'); have Ox1_9 := Lib.hid (Ox1_8.out.on x'); have Og_9 := Lib.hid (Og_8.out.on x'); have Ot0_9 := Lib.hid (Ot0_8.out.on x'); have SZ9 := Lib.hid (show y8.heap.size ≤ y9.heap.size from x'.size); clear KA KX; have KA := BA0_9.out.four; have KX := Bx0_9.out.four; clear x'))
    clear KA KX fA00 fA01 fA02 fA03 fx00 fx01 fx02 fx03
    obtain ⟨fA10, fA11, fA12, fA13⟩ := BA1_9.out.four
    obtain ⟨fx10, fx11, fx12, fx13⟩ := Bx1_9.out.four
    go_wp2_with fail
    go_region_held3 (fun w' => w'.cell? ⟨w.heap.size + 1, 0, none⟩ = some (.int .i64 W1) ∧ w'.cell? ⟨w.heap.size + 1, 1, none⟩ = some (.int .i64 D1) ∧ w'.cell? ⟨w.heap.size + 1, 2, none⟩ = some (.int .i64 S1) ∧ w'.cell? ⟨w.heap.size + 1, 3, none⟩ = some (.slice p1_3 zs1.length cap1_3) ∧ w'.cell? ⟨y5.heap.size, 0, none⟩ = some (.int .i64 W1) ∧ w'.cell? ⟨y5.heap.size, 1, none⟩ = some (.int .i64 D1) ∧ w'.cell? ⟨y5.heap.size, 2, none⟩ = some (.int .i64 S1) ∧ w'.cell? ⟨y5.heap.size, 3, none⟩ = some (.slice a_x1 zs1.length c_x1)) (first | exact ⟨KA.1, KA.2.1, KA.2.2.1, KA.2.2.2, KX.1, KX.2.1, KX.2.2.1, KX.2.2.2⟩ | go_keep) (first | (go_at_call 43; refine (c_toC W1 D1 S1 _ _ _ zs1 _ G1.out (H1_3.out.on B9.out.stepD)).mono ?_; rintro e y10 ⟨a_t1, c_t1, rfl, o', x'⟩; have B10 := Lib.hid (B9.out.stepD.trans x'); have BA0_10 := Lib.hid ((BA0_9.out.on (Ext.drew _)).on x'); have BA1_10 := Lib.hid ((BA1_9.out.on (Ext.drew _)).on x'); have Bw_10 := Lib.hid ((Bw_9.out.on (Ext.drew _)).on x'); have Bx0_10 := Lib.hid ((Bx0_9.out.on (Ext.drew _)).on x'); have Bx1_10 := Lib.hid ((Bx1_9.out.on (Ext.drew _)).on x'); have Bg_10 := Lib.hid ((Bg_9.out.on (Ext.drew _)).on x'); have Ow_10 := Lib.hid ((Ow_9.out.on (Ext.drew _)).on x'); have Ox0_10 := Lib.hid ((Ox0_9.out.on (Ext.drew _)).on x'); have Ox1_10 := Lib.hid ((Ox1_9.out.on (Ext.drew _)).on x'); have Og_10 := Lib.hid ((Og_9.out.on (Ext.drew _)).on x'); have Ot0_10 := Lib.hid ((Ot0_9.out.on (Ext.drew _)).on x'); have Ot1_10 := Lib.hid (o'.wide (lo' := y9.heap.size) (hi' := y10.heap.size) (by first | omega | (simp; done) | (simp; omega)) (Nat.le_refl _)); have SZ10 := Lib.hid (show y9.heap.size ≤ y10.heap.size from Nat.le_trans (by first | omega | (simp; done) | (simp; omega)) x'.size); have KA := BA1_10.out.four; have KX := Bx1_10.out.four; clear o' x') | (go_at_call 45; refine (c_eqC W1 D1 S1 _ _ _ _ _ zs1 _ G1.out Ox1_10.out.reads Ot1_10.out.reads).mono ?_; rintro e y11 ⟨rfl, x'⟩; have B11 := Lib.hid (B10.out.trans x'); have BA0_11 := Lib.hid (BA0_10.out.on x'); have BA1_11 := Lib.hid (BA1_10.out.on x'); have Bw_11 := Lib.hid (Bw_10.out.on x'); have Bx0_11 := Lib.hid (Bx0_10.out.on x'); have Bx1_11 := Lib.hid (Bx1_10.out.on x'); have Bg_11 := Lib.hid (Bg_10.out.on x'); have Ow_11 := Lib.hid (Ow_10.out.on x'); have Ox0_11 := Lib.hid (Ox0_10.out.on x'); have Ox1_11 := Lib.hid (Ox1_10.out.on x'); have Og_11 := Lib.hid (Og_10.out.on x'); have Ot0_11 := Lib.hid (Ot0_10.out.on x'); have Ot1_11 := Lib.hid (Ot1_10.out.on x'); have SZ11 := Lib.hid (show y10.heap.size ≤ y11.heap.size from x'.size); clear KA KX; have KA := BA1_11.out.four; have KX := Bx1_11.out.four; clear x'))
    clear KA KX fA10 fA11 fA12 fA13 fx10 fx11 fx12 fx13
    obtain ⟨kk0, hkk⟩ : ∃ k, 1 + zs0.length = k := ⟨_, rfl⟩; have HKK0 := Lib.hid hkk; clear hkk
    obtain ⟨fx00, fx01, fx02, fx03⟩ := Bx0_11.out.four
    go_wp2_with fail
    clear fx00 fx01 fx02 fx03
    refine (c_markC W0 D0 S0 (zc3.heap.size) (y4.heap.size) _ _ _ 1 _ _ G0.out (by decide) Ox0_11.out (by have := SZ1.out; have := SZ2.out; have := SZ3.out; have := SB3.out; have := SN3.out; have := SZ4.out; have := SZ5.out; have := SZ6.out; have := SZ7.out; have := SZ8.out; have := SZ9.out; have := SZ10.out; have := SZ11.out; omega)).mono ?_; rintro e y12 ⟨he, o', t'⟩; rw [HKK0.out] at he; subst he
    have B12 := Lib.hid (Touch.ext B11.out t' (by have := SZ1.out; have := SZ2.out; have := SZ3.out; have := SB3.out; have := SN3.out; have := SZ4.out; have := SZ5.out; have := SZ6.out; have := SZ7.out; have := SZ8.out; have := SZ9.out; have := SZ10.out; have := SZ11.out; omega))
    have BA0_12 := Lib.hid (BA0_11.out.beside t' (by have := SZ1.out; have := SZ2.out; have := SZ3.out; have := SB3.out; have := SN3.out; have := SZ4.out; have := SZ5.out; have := SZ6.out; have := SZ7.out; have := SZ8.out; have := SZ9.out; have := SZ10.out; have := SZ11.out; omega))
    have BA1_12 := Lib.hid (BA1_11.out.beside t' (by have := SZ1.out; have := SZ2.out; have := SZ3.out; have := SB3.out; have := SN3.out; have := SZ4.out; have := SZ5.out; have := SZ6.out; have := SZ7.out; have := SZ8.out; have := SZ9.out; have := SZ10.out; have := SZ11.out; omega))
    have Bw_12 := Lib.hid (Bw_11.out.beside t' (by have := SZ1.out; have := SZ2.out; have := SZ3.out; have := SB3.out; have := SN3.out; have := SZ4.out; have := SZ5.out; have := SZ6.out; have := SZ7.out; have := SZ8.out; have := SZ9.out; have := SZ10.out; have := SZ11.out; omega))
    have Bx0_12 := Lib.hid (Bx0_11.out.beside t' (by have := SZ1.out; have := SZ2.out; have := SZ3.out; have := SB3.out; have := SN3.out; have := SZ4.out; have := SZ5.out; have := SZ6.out; have := SZ7.out; have := SZ8.out; have := SZ9.out; have := SZ10.out; have := SZ11.out; omega))
    have Bx1_12 := Lib.hid (Bx1_11.out.beside t' (by have := SZ1.out; have := SZ2.out; have := SZ3.out; have := SB3.out; have := SN3.out; have := SZ4.out; have := SZ5.out; have := SZ6.out; have := SZ7.out; have := SZ8.out; have := SZ9.out; have := SZ10.out; have := SZ11.out; omega))
    have Bg_12 := Lib.hid (Bg_11.out.beside t' (by have := SZ1.out; have := SZ2.out; have := SZ3.out; have := SB3.out; have := SN3.out; have := SZ4.out; have := SZ5.out; have := SZ6.out; have := SZ7.out; have := SZ8.out; have := SZ9.out; have := SZ10.out; have := SZ11.out; omega))
    have Ow_12 := Lib.hid (Ow_11.out.beside t' (by have := SZ1.out; have := SZ2.out; have := SZ3.out; have := SB3.out; have := SN3.out; have := SZ4.out; have := SZ5.out; have := SZ6.out; have := SZ7.out; have := SZ8.out; have := SZ9.out; have := SZ10.out; have := SZ11.out; omega))
    have Ox1_12 := Lib.hid (Ox1_11.out.beside t' (by have := SZ1.out; have := SZ2.out; have := SZ3.out; have := SB3.out; have := SN3.out; have := SZ4.out; have := SZ5.out; have := SZ6.out; have := SZ7.out; have := SZ8.out; have := SZ9.out; have := SZ10.out; have := SZ11.out; omega))
    have Og_12 := Lib.hid (Og_11.out.beside t' (by have := SZ1.out; have := SZ2.out; have := SZ3.out; have := SB3.out; have := SN3.out; have := SZ4.out; have := SZ5.out; have := SZ6.out; have := SZ7.out; have := SZ8.out; have := SZ9.out; have := SZ10.out; have := SZ11.out; omega))
    have Ot0_12 := Lib.hid (Ot0_11.out.beside t' (by have := SZ1.out; have := SZ2.out; have := SZ3.out; have := SB3.out; have := SN3.out; have := SZ4.out; have := SZ5.out; have := SZ6.out; have := SZ7.out; have := SZ8.out; have := SZ9.out; have := SZ10.out; have := SZ11.out; omega))
    have Ot1_12 := Lib.hid (Ot1_11.out.beside t' (by have := SZ1.out; have := SZ2.out; have := SZ3.out; have := SB3.out; have := SN3.out; have := SZ4.out; have := SZ5.out; have := SZ6.out; have := SZ7.out; have := SZ8.out; have := SZ9.out; have := SZ10.out; have := SZ11.out; omega))
    have Ox0_12 := Lib.hid o'
    have SZ12 := Lib.hid (show y11.heap.size ≤ y12.heap.size from Nat.le_trans (by first | omega | (simp; done) | (simp; omega)) t'.size); clear o' t'
    obtain ⟨fx10, fx11, fx12, fx13⟩ := Bx1_12.out.four
    go_wp2_with fail
    clear fx10 fx11 fx12 fx13
    refine (c_markC W1 D1 S1 (y4.heap.size + 1) (y5.heap.size) _ _ _ kk0 _ _ G1.out (by have := HKK0.out; have := G0.out; omega) Ox1_12.out (by have := SZ1.out; have := SZ2.out; have := SZ3.out; have := SB3.out; have := SN3.out; have := SZ4.out; have := SZ5.out; have := SZ6.out; have := SZ7.out; have := SZ8.out; have := SZ9.out; have := SZ10.out; have := SZ11.out; have := SZ12.out; omega)).mono ?_; rintro e y13 ⟨rfl, o', t'⟩
    have B13 := Lib.hid (Touch.ext B12.out t' (by have := SZ1.out; have := SZ2.out; have := SZ3.out; have := SB3.out; have := SN3.out; have := SZ4.out; have := SZ5.out; have := SZ6.out; have := SZ7.out; have := SZ8.out; have := SZ9.out; have := SZ10.out; have := SZ11.out; have := SZ12.out; omega))
    have BA0_13 := Lib.hid (BA0_12.out.beside t' (by have := SZ1.out; have := SZ2.out; have := SZ3.out; have := SB3.out; have := SN3.out; have := SZ4.out; have := SZ5.out; have := SZ6.out; have := SZ7.out; have := SZ8.out; have := SZ9.out; have := SZ10.out; have := SZ11.out; have := SZ12.out; omega))
    have BA1_13 := Lib.hid (BA1_12.out.beside t' (by have := SZ1.out; have := SZ2.out; have := SZ3.out; have := SB3.out; have := SN3.out; have := SZ4.out; have := SZ5.out; have := SZ6.out; have := SZ7.out; have := SZ8.out; have := SZ9.out; have := SZ10.out; have := SZ11.out; have := SZ12.out; omega))
    have Bw_13 := Lib.hid (Bw_12.out.beside t' (by have := SZ1.out; have := SZ2.out; have := SZ3.out; have := SB3.out; have := SN3.out; have := SZ4.out; have := SZ5.out; have := SZ6.out; have := SZ7.out; have := SZ8.out; have := SZ9.out; have := SZ10.out; have := SZ11.out; have := SZ12.out; omega))
    have Bx0_13 := Lib.hid (Bx0_12.out.beside t' (by have := SZ1.out; have := SZ2.out; have := SZ3.out; have := SB3.out; have := SN3.out; have := SZ4.out; have := SZ5.out; have := SZ6.out; have := SZ7.out; have := SZ8.out; have := SZ9.out; have := SZ10.out; have := SZ11.out; have := SZ12.out; omega))
    have Bx1_13 := Lib.hid (Bx1_12.out.beside t' (by have := SZ1.out; have := SZ2.out; have := SZ3.out; have := SB3.out; have := SN3.out; have := SZ4.out; have := SZ5.out; have := SZ6.out; have := SZ7.out; have := SZ8.out; have := SZ9.out; have := SZ10.out; have := SZ11.out; have := SZ12.out; omega))
    have Bg_13 := Lib.hid (Bg_12.out.beside t' (by have := SZ1.out; have := SZ2.out; have := SZ3.out; have := SB3.out; have := SN3.out; have := SZ4.out; have := SZ5.out; have := SZ6.out; have := SZ7.out; have := SZ8.out; have := SZ9.out; have := SZ10.out; have := SZ11.out; have := SZ12.out; omega))
    have Ow_13 := Lib.hid (Ow_12.out.beside t' (by have := SZ1.out; have := SZ2.out; have := SZ3.out; have := SB3.out; have := SN3.out; have := SZ4.out; have := SZ5.out; have := SZ6.out; have := SZ7.out; have := SZ8.out; have := SZ9.out; have := SZ10.out; have := SZ11.out; have := SZ12.out; omega))
    have Ox0_13 := Lib.hid (Ox0_12.out.beside t' (by have := SZ1.out; have := SZ2.out; have := SZ3.out; have := SB3.out; have := SN3.out; have := SZ4.out; have := SZ5.out; have := SZ6.out; have := SZ7.out; have := SZ8.out; have := SZ9.out; have := SZ10.out; have := SZ11.out; have := SZ12.out; omega))
    have Og_13 := Lib.hid (Og_12.out.beside t' (by have := SZ1.out; have := SZ2.out; have := SZ3.out; have := SB3.out; have := SN3.out; have := SZ4.out; have := SZ5.out; have := SZ6.out; have := SZ7.out; have := SZ8.out; have := SZ9.out; have := SZ10.out; have := SZ11.out; have := SZ12.out; omega))
    have Ot0_13 := Lib.hid (Ot0_12.out.beside t' (by have := SZ1.out; have := SZ2.out; have := SZ3.out; have := SB3.out; have := SN3.out; have := SZ4.out; have := SZ5.out; have := SZ6.out; have := SZ7.out; have := SZ8.out; have := SZ9.out; have := SZ10.out; have := SZ11.out; have := SZ12.out; omega))
    have Ot1_13 := Lib.hid (Ot1_12.out.beside t' (by have := SZ1.out; have := SZ2.out; have := SZ3.out; have := SB3.out; have := SN3.out; have := SZ4.out; have := SZ5.out; have := SZ6.out; have := SZ7.out; have := SZ8.out; have := SZ9.out; have := SZ10.out; have := SZ11.out; have := SZ12.out; omega))
    have Ox1_13 := Lib.hid o'
    have SZ13 := Lib.hid (show y12.heap.size ≤ y13.heap.size from Nat.le_trans (by first | omega | (simp; done) | (simp; omega)) t'.size); clear o' t'
    obtain ⟨fg0, fg1, fg2, fg3⟩ := Bg_13.out.four
    obtain ⟨fw0, fw1, fw2, fw3⟩ := Bw_13.out.four
    go_wp2_with fail
    clear fg0 fg1 fg2 fg3 fw0 fw1 fw2 fw3
    refine (c_eqC rW rD rS _ _ _ _ _ rz _ RL.out Og_13.out.reads Ow_13.out.reads).mono ?_; rintro e y14 ⟨rfl, x'⟩
    have B14 := Lib.hid (B13.out.trans x')
    have BA0_14 := Lib.hid (BA0_13.out.on x')
    have BA1_14 := Lib.hid (BA1_13.out.on x')
    have Bw_14 := Lib.hid (Bw_13.out.on x')
    have Bx0_14 := Lib.hid (Bx0_13.out.on x')
    have Bx1_14 := Lib.hid (Bx1_13.out.on x')
    have Bg_14 := Lib.hid (Bg_13.out.on x')
    have Ow_14 := Lib.hid (Ow_13.out.on x')
    have Ox0_14 := Lib.hid (Ox0_13.out.on x')
    have Ox1_14 := Lib.hid (Ox1_13.out.on x')
    have Og_14 := Lib.hid (Og_13.out.on x')
    have Ot0_14 := Lib.hid (Ot0_13.out.on x')
    have Ot1_14 := Lib.hid (Ot1_13.out.on x')
    have SZ14 := Lib.hid (show y13.heap.size ≤ y14.heap.size from Nat.le_trans (by first | omega | (simp; done) | (simp; omega)) x'.size); clear x'
    obtain ⟨fg0, fg1, fg2, fg3⟩ := Bg_14.out.four
    go_wp2_with fail
    clear fg0 fg1 fg2 fg3
    refine (c_markC rW rD rS (y5.heap.size + 1) (y6.heap.size) _ _ _ 1 _ _ RL.out (by decide) Og_14.out (by have := SZ1.out; have := SZ2.out; have := SZ3.out; have := SB3.out; have := SN3.out; have := SZ4.out; have := SZ5.out; have := SZ6.out; have := SZ7.out; have := SZ8.out; have := SZ9.out; have := SZ10.out; have := SZ11.out; have := SZ12.out; have := SZ13.out; have := SZ14.out; omega)).mono ?_; rintro e y15 ⟨rfl, o', t'⟩
    have B15 := Lib.hid (Touch.ext B14.out t' (by have := SZ1.out; have := SZ2.out; have := SZ3.out; have := SB3.out; have := SN3.out; have := SZ4.out; have := SZ5.out; have := SZ6.out; have := SZ7.out; have := SZ8.out; have := SZ9.out; have := SZ10.out; have := SZ11.out; have := SZ12.out; have := SZ13.out; have := SZ14.out; omega))
    have BA0_15 := Lib.hid (BA0_14.out.beside t' (by have := SZ1.out; have := SZ2.out; have := SZ3.out; have := SB3.out; have := SN3.out; have := SZ4.out; have := SZ5.out; have := SZ6.out; have := SZ7.out; have := SZ8.out; have := SZ9.out; have := SZ10.out; have := SZ11.out; have := SZ12.out; have := SZ13.out; have := SZ14.out; omega))
    have BA1_15 := Lib.hid (BA1_14.out.beside t' (by have := SZ1.out; have := SZ2.out; have := SZ3.out; have := SB3.out; have := SN3.out; have := SZ4.out; have := SZ5.out; have := SZ6.out; have := SZ7.out; have := SZ8.out; have := SZ9.out; have := SZ10.out; have := SZ11.out; have := SZ12.out; have := SZ13.out; have := SZ14.out; omega))
    have Bw_15 := Lib.hid (Bw_14.out.beside t' (by have := SZ1.out; have := SZ2.out; have := SZ3.out; have := SB3.out; have := SN3.out; have := SZ4.out; have := SZ5.out; have := SZ6.out; have := SZ7.out; have := SZ8.out; have := SZ9.out; have := SZ10.out; have := SZ11.out; have := SZ12.out; have := SZ13.out; have := SZ14.out; omega))
    have Bx0_15 := Lib.hid (Bx0_14.out.beside t' (by have := SZ1.out; have := SZ2.out; have := SZ3.out; have := SB3.out; have := SN3.out; have := SZ4.out; have := SZ5.out; have := SZ6.out; have := SZ7.out; have := SZ8.out; have := SZ9.out; have := SZ10.out; have := SZ11.out; have := SZ12.out; have := SZ13.out; have := SZ14.out; omega))
    have Bx1_15 := Lib.hid (Bx1_14.out.beside t' (by have := SZ1.out; have := SZ2.out; have := SZ3.out; have := SB3.out; have := SN3.out; have := SZ4.out; have := SZ5.out; have := SZ6.out; have := SZ7.out; have := SZ8.out; have := SZ9.out; have := SZ10.out; have := SZ11.out; have := SZ12.out; have := SZ13.out; have := SZ14.out; omega))
    have Bg_15 := Lib.hid (Bg_14.out.beside t' (by have := SZ1.out; have := SZ2.out; have := SZ3.out; have := SB3.out; have := SN3.out; have := SZ4.out; have := SZ5.out; have := SZ6.out; have := SZ7.out; have := SZ8.out; have := SZ9.out; have := SZ10.out; have := SZ11.out; have := SZ12.out; have := SZ13.out; have := SZ14.out; omega))
    have Ow_15 := Lib.hid (Ow_14.out.beside t' (by have := SZ1.out; have := SZ2.out; have := SZ3.out; have := SB3.out; have := SN3.out; have := SZ4.out; have := SZ5.out; have := SZ6.out; have := SZ7.out; have := SZ8.out; have := SZ9.out; have := SZ10.out; have := SZ11.out; have := SZ12.out; have := SZ13.out; have := SZ14.out; omega))
    have Ox0_15 := Lib.hid (Ox0_14.out.beside t' (by have := SZ1.out; have := SZ2.out; have := SZ3.out; have := SB3.out; have := SN3.out; have := SZ4.out; have := SZ5.out; have := SZ6.out; have := SZ7.out; have := SZ8.out; have := SZ9.out; have := SZ10.out; have := SZ11.out; have := SZ12.out; have := SZ13.out; have := SZ14.out; omega))
    have Ox1_15 := Lib.hid (Ox1_14.out.beside t' (by have := SZ1.out; have := SZ2.out; have := SZ3.out; have := SB3.out; have := SN3.out; have := SZ4.out; have := SZ5.out; have := SZ6.out; have := SZ7.out; have := SZ8.out; have := SZ9.out; have := SZ10.out; have := SZ11.out; have := SZ12.out; have := SZ13.out; have := SZ14.out; omega))
    have Ot0_15 := Lib.hid (Ot0_14.out.beside t' (by have := SZ1.out; have := SZ2.out; have := SZ3.out; have := SB3.out; have := SN3.out; have := SZ4.out; have := SZ5.out; have := SZ6.out; have := SZ7.out; have := SZ8.out; have := SZ9.out; have := SZ10.out; have := SZ11.out; have := SZ12.out; have := SZ13.out; have := SZ14.out; omega))
    have Ot1_15 := Lib.hid (Ot1_14.out.beside t' (by have := SZ1.out; have := SZ2.out; have := SZ3.out; have := SB3.out; have := SN3.out; have := SZ4.out; have := SZ5.out; have := SZ6.out; have := SZ7.out; have := SZ8.out; have := SZ9.out; have := SZ10.out; have := SZ11.out; have := SZ12.out; have := SZ13.out; have := SZ14.out; omega))
    have Og_15 := Lib.hid o'
    have SZ15 := Lib.hid (show y14.heap.size ≤ y15.heap.size from Nat.le_trans (by first | omega | (simp; done) | (simp; omega)) t'.size); clear o' t'
    obtain ⟨fg0, fg1, fg2, fg3⟩ := Bg_15.out.four
    go_wp2_with fail
    clear fg0 fg1 fg2 fg3
    refine (c_heldC rW rD rS _ _ _ 1 _ RL.out (by decide) Og_15.out.reads).mono ?_; rintro e y16 ⟨rfl, x'⟩
    have B16 := Lib.hid (B15.out.trans x')
    have BA0_16 := Lib.hid (BA0_15.out.on x')
    have BA1_16 := Lib.hid (BA1_15.out.on x')
    have Bw_16 := Lib.hid (Bw_15.out.on x')
    have Bx0_16 := Lib.hid (Bx0_15.out.on x')
    have Bx1_16 := Lib.hid (Bx1_15.out.on x')
    have Bg_16 := Lib.hid (Bg_15.out.on x')
    have Ow_16 := Lib.hid (Ow_15.out.on x')
    have Ox0_16 := Lib.hid (Ox0_15.out.on x')
    have Ox1_16 := Lib.hid (Ox1_15.out.on x')
    have Og_16 := Lib.hid (Og_15.out.on x')
    have Ot0_16 := Lib.hid (Ot0_15.out.on x')
    have Ot1_16 := Lib.hid (Ot1_15.out.on x')
    have SZ16 := Lib.hid (show y15.heap.size ≤ y16.heap.size from Nat.le_trans (by first | omega | (simp; done) | (simp; omega)) x'.size); clear x'
    have hA0 : w.heap.size < y16.heap.size := by have := SZ1.out; have := SZ2.out; have := SZ3.out; have := SB3.out; have := SN3.out; have := SZ4.out; have := SZ5.out; have := SZ6.out; have := SZ7.out; have := SZ8.out; have := SZ9.out; have := SZ10.out; have := SZ11.out; have := SZ12.out; have := SZ13.out; have := SZ14.out; have := SZ15.out; have := SZ16.out; omega
    have nA0 : w.heap.size ≠ y16.heap.size := by omega
    have nB0 : y16.heap.size ≠ w.heap.size := by omega
    have hA1 : w.heap.size + 1 < y16.heap.size := by have := SZ1.out; have := SZ2.out; have := SZ3.out; have := SB3.out; have := SN3.out; have := SZ4.out; have := SZ5.out; have := SZ6.out; have := SZ7.out; have := SZ8.out; have := SZ9.out; have := SZ10.out; have := SZ11.out; have := SZ12.out; have := SZ13.out; have := SZ14.out; have := SZ15.out; have := SZ16.out; omega
    have nA1 : w.heap.size + 1 ≠ y16.heap.size := by omega
    have nB1 : y16.heap.size ≠ w.heap.size + 1 := by omega
    obtain ⟨fA00, fA01, fA02, fA03⟩ := BA0_16.out.four
    obtain ⟨fA10, fA11, fA12, fA13⟩ := BA1_16.out.four
    go_upto_region 31 with fail
    go_cut [15, 16] (fun s15 s16 wx => ∃ nb a c, s15 = .pointer (some ⟨nb, 0, none⟩) ∧ s16 = .bool rb ∧ Box wx nb 54 #[.int .i64 rW, .int .i64 rD, .int .i64 rS, .slice a rz.length c] ∧ Own 2 wx y16.heap.size wx.heap.size a rz.length c (ints rz) ∧ y16.heap.size ≤ nb ∧ Ext y16 wx)
    case first =>
      first | (go_region_held3 (fun w' => w'.cell? ⟨w.heap.size, 0, none⟩ = some (.int .i64 W0) ∧ w'.cell? ⟨w.heap.size, 1, none⟩ = some (.int .i64 D0) ∧ w'.cell? ⟨w.heap.size, 2, none⟩ = some (.int .i64 S0) ∧ w'.cell? ⟨w.heap.size, 3, none⟩ = some (.slice p0_3 zs0.length cap0_3) ∧ w'.cell? ⟨w.heap.size + 1, 0, none⟩ = some (.int .i64 W1) ∧ w'.cell? ⟨w.heap.size + 1, 1, none⟩ = some (.int .i64 D1) ∧ w'.cell? ⟨w.heap.size + 1, 2, none⟩ = some (.int .i64 S1) ∧ w'.cell? ⟨w.heap.size + 1, 3, none⟩ = some (.slice p1_3 zs1.length cap1_3)) (first | exact ⟨K0.1, K0.2.1, K0.2.2.1, K0.2.2.2, K1.1, K1.2.1, K1.2.2.1, K1.2.2.2⟩ | go_keep) (first | (go_at_call_of 43 (Value.agg #[.int .i64 W0, .int .i64 D0, .int .i64 S0, .slice p0_3 zs0.length cap0_3]); refine (c_toC W0 D0 S0 _ _ _ zs0 _ G0.out (H0_3.out.on (B16.out.trans (by (repeat (first | assumption | exact Ext.refl _ | (with_reducible refine Ext.stepS ?_ (by first | exact Nat.le_refl _ | (simp; done) | (simp; omega)) _) | (with_reducible refine Ext.stepN ?_ _) | (with_reducible refine Ext.stepD ?_) | (with_reducible refine Ext.stepA ?_ _))))))).mono ?_; rintro e v0 ⟨as0, cs0, rfl, o', x'⟩; have EA : Ext y16 v0 := Ext.trans (by (repeat (first | assumption | exact Ext.refl _ | (with_reducible refine Ext.stepS ?_ (by first | exact Nat.le_refl _ | (simp; done) | (simp; omega)) _) | (with_reducible refine Ext.stepN ?_ _) | (with_reducible refine Ext.stepD ?_) | (with_reducible refine Ext.stepA ?_ _)))) x'; have ES0 := EA.size; have K0 := (BA0_16.out.on EA).four; have K1 := (BA1_16.out.on EA).four; (first | (revert NB; intro NB; have NB2 := Lib.hid (NB.out.on (Ext.trans (by (repeat (first | assumption | exact Ext.refl _ | (with_reducible refine Ext.stepS ?_ (by first | exact Nat.le_refl _ | (simp; done) | (simp; omega)) _) | (with_reducible refine Ext.stepN ?_ _) | (with_reducible refine Ext.stepD ?_) | (with_reducible refine Ext.stepA ?_ _)))) x')); clear NB; have NB := NB2; clear NB2) | (have QX := x'; change Ext (World.alloc y16 (.cells #[.int .i64 0, .int .i64 0, .int .i64 0, .slice none 0 0] 54)) _ at QX; have NB := Lib.hid (Box.on (Box.alloc y16 _ _) QX); clear QX) | (have QX := x'; change Ext (World.drew (World.alloc y16 (.cells #[.int .i64 0, .int .i64 0, .int .i64 0, .slice none 0 0] 54))) _ at QX; have NB := Lib.hid (Box.on (Box.alloc y16 _ _) (Ext.trans (Ext.drew _) QX)); clear QX) | skip); (try (revert NB; intro NB; have LBv0 := NB.out.lt)); have mv00 : w.heap.size ≠ v0.heap.size := (by have := EA.size; omega); have lv00 : v0.heap.size ≠ w.heap.size := (by have := EA.size; omega); have mv01 : w.heap.size + 1 ≠ v0.heap.size := (by have := EA.size; omega); have lv01 : v0.heap.size ≠ w.heap.size + 1 := (by have := EA.size; omega); have Os0 := Lib.hid o'; (try (have OO := Lib.hid (Os1.out.on (Ext.trans (by (repeat (first | assumption | exact Ext.refl _ | (with_reducible refine Ext.stepS ?_ (by first | exact Nat.le_refl _ | (simp; done) | (simp; omega)) _) | (with_reducible refine Ext.stepN ?_ _) | (with_reducible refine Ext.stepD ?_) | (with_reducible refine Ext.stepA ?_ _)))) x')); clear Os1; have Os1 := OO; clear OO)); clear o' x') | (go_at_call_of 43 (Value.agg #[.int .i64 W1, .int .i64 D1, .int .i64 S1, .slice p1_3 zs1.length cap1_3]); refine (c_toC W1 D1 S1 _ _ _ zs1 _ G1.out (H1_3.out.on (B16.out.trans (by (repeat (first | assumption | exact Ext.refl _ | (with_reducible refine Ext.stepS ?_ (by first | exact Nat.le_refl _ | (simp; done) | (simp; omega)) _) | (with_reducible refine Ext.stepN ?_ _) | (with_reducible refine Ext.stepD ?_) | (with_reducible refine Ext.stepA ?_ _))))))).mono ?_; rintro e v1 ⟨as1, cs1, rfl, o', x'⟩; have EA : Ext y16 v1 := Ext.trans (by (repeat (first | assumption | exact Ext.refl _ | (with_reducible refine Ext.stepS ?_ (by first | exact Nat.le_refl _ | (simp; done) | (simp; omega)) _) | (with_reducible refine Ext.stepN ?_ _) | (with_reducible refine Ext.stepD ?_) | (with_reducible refine Ext.stepA ?_ _)))) x'; have ES1 := EA.size; have K0 := (BA0_16.out.on EA).four; have K1 := (BA1_16.out.on EA).four; (first | (revert NB; intro NB; have NB2 := Lib.hid (NB.out.on (Ext.trans (by (repeat (first | assumption | exact Ext.refl _ | (with_reducible refine Ext.stepS ?_ (by first | exact Nat.le_refl _ | (simp; done) | (simp; omega)) _) | (with_reducible refine Ext.stepN ?_ _) | (with_reducible refine Ext.stepD ?_) | (with_reducible refine Ext.stepA ?_ _)))) x')); clear NB; have NB := NB2; clear NB2) | (have QX := x'; change Ext (World.alloc v0 (.cells #[.int .i64 0, .int .i64 0, .int .i64 0, .slice none 0 0] 54)) _ at QX; have NB := Lib.hid (Box.on (Box.alloc v0 _ _) QX); clear QX) | (have QX := x'; change Ext (World.drew (World.alloc v0 (.cells #[.int .i64 0, .int .i64 0, .int .i64 0, .slice none 0 0] 54))) _ at QX; have NB := Lib.hid (Box.on (Box.alloc v0 _ _) (Ext.trans (Ext.drew _) QX)); clear QX) | skip); (try (revert NB; intro NB; have LBv1 := NB.out.lt)); have mv10 : w.heap.size ≠ v1.heap.size := (by have := EA.size; omega); have lv10 : v1.heap.size ≠ w.heap.size := (by have := EA.size; omega); have mv11 : w.heap.size + 1 ≠ v1.heap.size := (by have := EA.size; omega); have lv11 : v1.heap.size ≠ w.heap.size + 1 := (by have := EA.size; omega); have Os1 := Lib.hid o'; (try (have OO := Lib.hid (Os0.out.on (Ext.trans (by (repeat (first | assumption | exact Ext.refl _ | (with_reducible refine Ext.stepS ?_ (by first | exact Nat.le_refl _ | (simp; done) | (simp; omega)) _) | (with_reducible refine Ext.stepN ?_ _) | (with_reducible refine Ext.stepD ?_) | (with_reducible refine Ext.stepA ?_ _)))) x')); clear Os0; have Os0 := OO; clear OO)); clear o' x') | (go_at_call 44; refine (c_impl_MergeCells W0 D0 S0 _ _ _ zs0 W1 D1 S1 _ _ _ zs1 _ HV.out (by have := G0.out; unfold maxLen; omega) (Os0.out.on (by (repeat (first | assumption | exact Ext.refl _ | (with_reducible refine Ext.stepS ?_ (by first | exact Nat.le_refl _ | (simp; done) | (simp; omega)) _) | (with_reducible refine Ext.stepN ?_ _) | (with_reducible refine Ext.stepD ?_) | (with_reducible refine Ext.stepA ?_ _))))).reads (by have := G1.out; unfold maxLen; omega) (Os1.out.on (by (repeat (first | assumption | exact Ext.refl _ | (with_reducible refine Ext.stepS ?_ (by first | exact Nat.le_refl _ | (simp; done) | (simp; omega)) _) | (with_reducible refine Ext.stepN ?_ _) | (with_reducible refine Ext.stepD ?_) | (with_reducible refine Ext.stepA ?_ _))))).reads).mono ?_; rintro e vf ⟨a_f, c_f, rfl, ow, x'⟩; have EA : Ext y16 vf := Ext.trans (by (repeat (first | assumption | exact Ext.refl _ | (with_reducible refine Ext.stepS ?_ (by first | exact Nat.le_refl _ | (simp; done) | (simp; omega)) _) | (with_reducible refine Ext.stepN ?_ _) | (with_reducible refine Ext.stepD ?_) | (with_reducible refine Ext.stepA ?_ _)))) x'; have EH := Lib.hid EA; have K0 := (BA0_16.out.on EA).four; have K1 := (BA1_16.out.on EA).four; have ESf := EA.size; (first | (revert NB; intro NB; have NB2 := Lib.hid (NB.out.on (Ext.trans (by (repeat (first | assumption | exact Ext.refl _ | (with_reducible refine Ext.stepS ?_ (by first | exact Nat.le_refl _ | (simp; done) | (simp; omega)) _) | (with_reducible refine Ext.stepN ?_ _) | (with_reducible refine Ext.stepD ?_) | (with_reducible refine Ext.stepA ?_ _)))) x')); clear NB; have NB := NB2; clear NB2) | (have QX := x'; change Ext (World.alloc v1 (.cells #[.int .i64 0, .int .i64 0, .int .i64 0, .slice none 0 0] 54)) _ at QX; have NB := Lib.hid (Box.on (Box.alloc v1 _ _) QX); clear QX) | (have QX := x'; change Ext (World.drew (World.alloc v1 (.cells #[.int .i64 0, .int .i64 0, .int .i64 0, .slice none 0 0] 54))) _ at QX; have NB := Lib.hid (Box.on (Box.alloc v1 _ _) (Ext.trans (Ext.drew _) QX)); clear QX) | skip); (try (revert NB; intro NB; have LBvf := NB.out.lt)); have mvf0 : w.heap.size ≠ vf.heap.size := (by have := EA.size; omega); have lvf0 : vf.heap.size ≠ w.heap.size := (by have := EA.size; omega); have mvf1 : w.heap.size + 1 ≠ vf.heap.size := (by have := EA.size; omega); have lvf1 : vf.heap.size ≠ w.heap.size + 1 := (by have := EA.size; omega); (try (revert NB; intro NB; obtain ⟨z0, z1, z2, z3⟩ := NB.out.four; obtain ⟨j0, j1, j2, j3⟩ := NB.out.free)); have OW := Lib.hid ow; clear ow x'))) | fail
      all_goals
        go_wp2_with fail
        go_meet
        first
          | (with_reducible refine ⟨_, a_f, c_f, rfl, rfl, Box.alloc _ _ _, ?_, ?_, ?_⟩; exact (OW.out.on (Ext.alloc _ _)).wide (by first | omega | (simp; done) | (simp; omega)) (by first | omega | (simp; done) | (simp; omega)); exact EH.out.size; exact EH.out.stepA _)
          | (refine ⟨_, a_f, c_f, rfl, rfl, ((((NB.out.put 0 _).put 1 _).put 2 _).put 3 _), own_touch OW.out (lo' := y16.heap.size) (hi' := y16.heap.size + 1) ?_ (Or.inr ?_) ?_ ?_, ?_, ?_⟩ <;> first | omega | ((repeat (first | assumption | exact Touch.refl _ _ _ | (with_reducible refine Touch.stepS ?_ (by first | exact Nat.le_refl _ | (simp; done) | (simp; omega)) (by first | (simp; done) | (simp; omega)) _) | (with_reducible refine Touch.stepN ?_ _) | (with_reducible refine Touch.stepA ?_ _))); done) | (have EH' := EH.out; (repeat (first | assumption | exact Ext.refl _ | (with_reducible refine Ext.stepS ?_ (by first | exact Nat.le_refl _ | (simp; done) | (simp; omega)) _) | (with_reducible refine Ext.stepN ?_ _) | (with_reducible refine Ext.stepD ?_) | (with_reducible refine Ext.stepA ?_ _))); done) | (simp; done) | (simp; omega))
          | (refine ⟨_, a_f, c_f, rfl, rfl, ((((NB.out.put 0 _).put 1 _).put 2 _).put 3 _), own_touch OW.out (lo' := v0.heap.size) (hi' := v0.heap.size + 1) ?_ (Or.inr ?_) ?_ ?_, ?_, ?_⟩ <;> first | omega | ((repeat (first | assumption | exact Touch.refl _ _ _ | (with_reducible refine Touch.stepS ?_ (by first | exact Nat.le_refl _ | (simp; done) | (simp; omega)) (by first | (simp; done) | (simp; omega)) _) | (with_reducible refine Touch.stepN ?_ _) | (with_reducible refine Touch.stepA ?_ _))); done) | (have EH' := EH.out; (repeat (first | assumption | exact Ext.refl _ | (with_reducible refine Ext.stepS ?_ (by first | exact Nat.le_refl _ | (simp; done) | (simp; omega)) _) | (with_reducible refine Ext.stepN ?_ _) | (with_reducible refine Ext.stepD ?_) | (with_reducible refine Ext.stepA ?_ _))); done) | (simp; done) | (simp; omega))
          | (refine ⟨_, a_f, c_f, rfl, rfl, ((((NB.out.put 0 _).put 1 _).put 2 _).put 3 _), own_touch OW.out (lo' := v1.heap.size) (hi' := v1.heap.size + 1) ?_ (Or.inr ?_) ?_ ?_, ?_, ?_⟩ <;> first | omega | ((repeat (first | assumption | exact Touch.refl _ _ _ | (with_reducible refine Touch.stepS ?_ (by first | exact Nat.le_refl _ | (simp; done) | (simp; omega)) (by first | (simp; done) | (simp; omega)) _) | (with_reducible refine Touch.stepN ?_ _) | (with_reducible refine Touch.stepA ?_ _))); done) | (have EH' := EH.out; (repeat (first | assumption | exact Ext.refl _ | (with_reducible refine Ext.stepS ?_ (by first | exact Nat.le_refl _ | (simp; done) | (simp; omega)) _) | (with_reducible refine Ext.stepN ?_ _) | (with_reducible refine Ext.stepD ?_) | (with_reducible refine Ext.stepA ?_ _))); done) | (simp; done) | (simp; omega))
    case rest =>
      obtain ⟨nb_h, a_h, c_h, rfl, rfl, hbox, hown, hnb, x'⟩ := hcut
      obtain ⟨zc17, hz⟩ : ∃ z, z = wc := ⟨_, rfl⟩; subst hz
      clear fA00 fA01 fA02 fA03 fA10 fA11 fA12 fA13
      have B17 := Lib.hid (B16.out.trans x')
      have BA0_17 := Lib.hid (BA0_16.out.on x')
      have BA1_17 := Lib.hid (BA1_16.out.on x')
      have Bw_17 := Lib.hid (Bw_16.out.on x')
      have Bx0_17 := Lib.hid (Bx0_16.out.on x')
      have Bx1_17 := Lib.hid (Bx1_16.out.on x')
      have Bg_17 := Lib.hid (Bg_16.out.on x')
      have Ow_17 := Lib.hid (Ow_16.out.on x')
      have Ox0_17 := Lib.hid (Ox0_16.out.on x')
      have Ox1_17 := Lib.hid (Ox1_16.out.on x')
      have Og_17 := Lib.hid (Og_16.out.on x')
      have Ot0_17 := Lib.hid (Ot0_16.out.on x')
      have Ot1_17 := Lib.hid (Ot1_16.out.on x')
      have SZ17 := Lib.hid (show y16.heap.size ≤ zc17.heap.size from x'.size); clear x'
      have Bh_17 := Lib.hid hbox; have SB17 := Lib.hid hbox.lt; have SN17 := Lib.hid hnb; have Oh_17 := Lib.hid hown; clear hbox hown hnb
      obtain ⟨fh0, fh1, fh2, fh3⟩ := Bh_17.out.four
      obtain ⟨fw0, fw1, fw2, fw3⟩ := Bw_17.out.four
      go_wp2_with fail
      clear fh0 fh1 fh2 fh3 fw0 fw1 fw2 fw3
      refine (c_eqC rW rD rS _ _ _ _ _ rz _ RL.out Oh_17.out.reads Ow_17.out.reads).mono ?_; rintro e y18 ⟨rfl, x'⟩
      have B18 := Lib.hid (B17.out.trans x')
      have BA0_18 := Lib.hid (BA0_17.out.on x')
      have BA1_18 := Lib.hid (BA1_17.out.on x')
      have Bw_18 := Lib.hid (Bw_17.out.on x')
      have Bx0_18 := Lib.hid (Bx0_17.out.on x')
      have Bx1_18 := Lib.hid (Bx1_17.out.on x')
      have Bg_18 := Lib.hid (Bg_17.out.on x')
      have Bh_18 := Lib.hid (Bh_17.out.on x')
      have Ow_18 := Lib.hid (Ow_17.out.on x')
      have Ox0_18 := Lib.hid (Ox0_17.out.on x')
      have Ox1_18 := Lib.hid (Ox1_17.out.on x')
      have Og_18 := Lib.hid (Og_17.out.on x')
      have Ot0_18 := Lib.hid (Ot0_17.out.on x')
      have Ot1_18 := Lib.hid (Ot1_17.out.on x')
      have Oh_18 := Lib.hid (Oh_17.out.on x')
      have SZ18 := Lib.hid (show zc17.heap.size ≤ y18.heap.size from Nat.le_trans (by first | omega | (simp; done) | (simp; omega)) x'.size); clear x'
      obtain ⟨fg0, fg1, fg2, fg3⟩ := Bg_18.out.four
      go_wp2_with fail
      clear fg0 fg1 fg2 fg3
      refine (c_heldC rW rD rS _ _ _ 1 _ RL.out (by decide) Og_18.out.reads).mono ?_; rintro e y19 ⟨rfl, x'⟩
      have B19 := Lib.hid (B18.out.trans x')
      have BA0_19 := Lib.hid (BA0_18.out.on x')
      have BA1_19 := Lib.hid (BA1_18.out.on x')
      have Bw_19 := Lib.hid (Bw_18.out.on x')
      have Bx0_19 := Lib.hid (Bx0_18.out.on x')
      have Bx1_19 := Lib.hid (Bx1_18.out.on x')
      have Bg_19 := Lib.hid (Bg_18.out.on x')
      have Bh_19 := Lib.hid (Bh_18.out.on x')
      have Ow_19 := Lib.hid (Ow_18.out.on x')
      have Ox0_19 := Lib.hid (Ox0_18.out.on x')
      have Ox1_19 := Lib.hid (Ox1_18.out.on x')
      have Og_19 := Lib.hid (Og_18.out.on x')
      have Ot0_19 := Lib.hid (Ot0_18.out.on x')
      have Ot1_19 := Lib.hid (Ot1_18.out.on x')
      have Oh_19 := Lib.hid (Oh_18.out.on x')
      have SZ19 := Lib.hid (show y18.heap.size ≤ y19.heap.size from Nat.le_trans (by first | omega | (simp; done) | (simp; omega)) x'.size); clear x'
      go_wp2
      go_ret
      exact ⟨rfl, B19.out⟩
end Go.Proofs.Ytfolflkbpdbkcac
