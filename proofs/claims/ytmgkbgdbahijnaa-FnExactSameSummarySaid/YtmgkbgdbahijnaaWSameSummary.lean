/- The walk of the law FnExactSameSummary. -/
import Derived.Test.YtmgkbgdbahijnaaSsm
import Derived.Deep.RegionHeld3
import Derived.Deep.DeepCutAuto
import Derived.Deep.LoopGhost
import Derived.WalkLawsBesides
namespace Go.Proofs.Ytmgkbgdbahijnaa
open Go.ChangeShapes Go.WideShapes Go.ChangeAt Go.RowKit
set_option linter.unusedVariables false
open Go.Proofs.Ytmgkbgdbahijnaa.Flo
set_option maxRecDepth 100000 in
set_option maxHeartbeats 8000000 in
theorem walk_FnExactSameSummary (N0 : Int) (C0 : Int) (p0_1 : Option Addr) (len0_1 cap0_1 : Nat) (z0_1 : List Nat) (p0_2 : Option Addr) (len0_2 cap0_2 : Nat) (z0_2 : List Int) (p0_3 : Option Addr) (len0_3 cap0_3 : Nat) (z0_3 : List Int) (N1 : Int) (C1 : Int) (p1_1 : Option Addr) (len1_1 cap1_1 : Nat) (z1_1 : List Nat) (p1_2 : Option Addr) (len1_2 cap1_2 : Nat) (z1_2 : List Int) (p1_3 : Option Addr) (len1_3 cap1_3 : Nat) (z1_3 : List Int) (w : World) (w0_0 : (Lit.int .i64 N0).wf = true) (w0_1 : (Lit.int .i64 C0).wf = true) (w0_2 : IsFRow .f32 w p0_1 len0_1 cap0_1 z0_1) (w0_3 : IsRow .i64 w p0_2 len0_2 cap0_2 z0_2) (w0_4 : IsRow .i64 w p0_3 len0_3 cap0_3 z0_3) (w1_0 : (Lit.int .i64 N1).wf = true) (w1_1 : (Lit.int .i64 C1).wf = true) (w1_2 : IsFRow .f32 w p1_1 len1_1 cap1_1 z1_1) (w1_3 : IsRow .i64 w p1_2 len1_2 cap1_2 z1_2) (w1_4 : IsRow .i64 w p1_3 len1_3 cap1_3 z1_3) :
    Calls Try.prog 5 #[.agg #[.int .i64 N0, .int .i64 C0, .slice p0_1 len0_1 cap0_1, .slice p0_2 len0_2 cap0_2, .slice p0_3 len0_3 cap0_3], .agg #[.int .i64 N1, .int .i64 C1, .slice p1_1 len1_1 cap1_1, .slice p1_2 len1_2 cap1_2, .slice p1_3 len1_3 cap1_3]] w fun e w' => e = .returned (.bool true) ∧ Below w.heap.size w w' := by
  clear w0_0
  clear w0_1
  have FB0_1 := Lib.hid w0_2.bits
  obtain ⟨h0_1, m0_1⟩ := w0_2.rd
  obtain ⟨zs0_1, hz0_1⟩ : ∃ zs, z0_1.take len0_1 = zs := ⟨_, rfl⟩
  rw [hz0_1] at h0_1 FB0_1
  have hl0_1 := h0_1.flo.1
  subst hl0_1
  have H0_1 := Lib.hid h0_1; have M0_1 := Lib.hid m0_1
  clear hz0_1 h0_1 m0_1 w0_2
  obtain ⟨h0_2, m0_2⟩ := w0_3.rd
  obtain ⟨zs0_2, hz0_2⟩ : ∃ zs, z0_2.take len0_2 = zs := ⟨_, rfl⟩
  rw [hz0_2] at h0_2
  have hl0_2 := h0_2.int.1
  subst hl0_2
  have H0_2 := Lib.hid h0_2; have M0_2 := Lib.hid m0_2
  clear hz0_2 h0_2 m0_2 w0_3
  obtain ⟨h0_3, m0_3⟩ := w0_4.rd
  obtain ⟨zs0_3, hz0_3⟩ : ∃ zs, z0_3.take len0_3 = zs := ⟨_, rfl⟩
  rw [hz0_3] at h0_3
  have hl0_3 := h0_3.int.1
  subst hl0_3
  have H0_3 := Lib.hid h0_3; have M0_3 := Lib.hid m0_3
  clear hz0_3 h0_3 m0_3 w0_4
  have H0 := Lib.hid (show Reads3 w p0_1 zs0_1.length (flos zs0_1) p0_2 zs0_2.length (ints zs0_2) p0_3 zs0_3.length (ints zs0_3) from ⟨H0_1.out, H0_2.out, H0_3.out⟩)
  clear w1_0
  clear w1_1
  have FB1_1 := Lib.hid w1_2.bits
  obtain ⟨h1_1, m1_1⟩ := w1_2.rd
  obtain ⟨zs1_1, hz1_1⟩ : ∃ zs, z1_1.take len1_1 = zs := ⟨_, rfl⟩
  rw [hz1_1] at h1_1 FB1_1
  have hl1_1 := h1_1.flo.1
  subst hl1_1
  have H1_1 := Lib.hid h1_1; have M1_1 := Lib.hid m1_1
  clear hz1_1 h1_1 m1_1 w1_2
  obtain ⟨h1_2, m1_2⟩ := w1_3.rd
  obtain ⟨zs1_2, hz1_2⟩ : ∃ zs, z1_2.take len1_2 = zs := ⟨_, rfl⟩
  rw [hz1_2] at h1_2
  have hl1_2 := h1_2.int.1
  subst hl1_2
  have H1_2 := Lib.hid h1_2; have M1_2 := Lib.hid m1_2
  clear hz1_2 h1_2 m1_2 w1_3
  obtain ⟨h1_3, m1_3⟩ := w1_4.rd
  obtain ⟨zs1_3, hz1_3⟩ : ∃ zs, z1_3.take len1_3 = zs := ⟨_, rfl⟩
  rw [hz1_3] at h1_3
  have hl1_3 := h1_3.int.1
  subst hl1_3
  have H1_3 := Lib.hid h1_3; have M1_3 := Lib.hid m1_3
  clear hz1_3 h1_3 m1_3 w1_4
  have H1 := Lib.hid (show Reads3 w p1_1 zs1_1.length (flos zs1_1) p1_2 zs1_2.length (ints zs1_2) p1_3 zs1_3.length (ints zs1_3) from ⟨H1_1.out, H1_2.out, H1_3.out⟩)
  have BA0_0 := Lib.hid (Box.past (Box.alloc_at w #[.int .i64 N0, .int .i64 C0, .slice p0_1 zs0_1.length cap0_1, .slice p0_2 zs0_2.length cap0_2, .slice p0_3 zs0_3.length cap0_3] 28 (b := w.heap.size) (by first | omega | (simp; done) | (simp; omega))) (.cells #[.int .i64 N1, .int .i64 C1, .slice p1_1 zs1_1.length cap1_1, .slice p1_2 zs1_2.length cap1_2, .slice p1_3 zs1_3.length cap1_3] 28))
  have BA1_0 := Lib.hid (Box.alloc_at (w.alloc (.cells #[.int .i64 N0, .int .i64 C0, .slice p0_1 zs0_1.length cap0_1, .slice p0_2 zs0_2.length cap0_2, .slice p0_3 zs0_3.length cap0_3] 28)) #[.int .i64 N1, .int .i64 C1, .slice p1_1 zs1_1.length cap1_1, .slice p1_2 zs1_2.length cap1_2, .slice p1_3 zs1_3.length cap1_3] 28 (b := w.heap.size + 1) (by first | omega | (simp; done) | (simp; omega)))
  have B0 := Lib.hid (show Ext w ((w.alloc (.cells #[.int .i64 N0, .int .i64 C0, .slice p0_1 zs0_1.length cap0_1, .slice p0_2 zs0_2.length cap0_2, .slice p0_3 zs0_3.length cap0_3] 28)).alloc (.cells #[.int .i64 N1, .int .i64 C1, .slice p1_1 zs1_1.length cap1_1, .slice p1_2 zs1_2.length cap1_2, .slice p1_3 zs1_3.length cap1_3] 28)) from by (repeat (first | assumption | exact Ext.refl _ | (with_reducible refine Ext.stepS ?_ (by first | exact Nat.le_refl _ | (simp; done) | (simp; omega)) _) | (with_reducible refine Ext.stepN ?_ _) | (with_reducible refine Ext.stepD ?_) | (with_reducible refine Ext.stepA ?_ _))))
  by_cases g0 : 1048576 < zs0_1.length + zs0_2.length + zs0_3.length
  · go_enter Try.func5, Try.ntmps5
    go_wp2_with fail
    refine (c_szY_no N0 C0 _ _ _ _ _ _ _ _ _ 1048576 _ g0 (by decide) M0_1.out M0_2.out M0_3.out).mono ?_; rintro e y1 ⟨rfl, x'⟩
    have X := B0.out.trans x'
    clear x'
    go_wp2
    go_ret
    exact ⟨rfl, X⟩
  have G0 := Lib.hid (show zs0_1.length + zs0_2.length + zs0_3.length ≤ 1048576 by omega)
  clear g0
  by_cases g1 : 1048576 - (zs0_1.length + zs0_2.length + zs0_3.length) < zs1_1.length + zs1_2.length + zs1_3.length
  · go_enter Try.func5, Try.ntmps5
    have hnn : (0 : Int) ≤ ((1048576 - (zs0_1.length + zs0_2.length + zs0_3.length) : Nat) : Int) := by omega
    obtain ⟨l1, hl1⟩ : ∃ l, 1048576 - (zs0_1.length + zs0_2.length + zs0_3.length) = l := ⟨_, rfl⟩
    have HL1 := Lib.hid hl1
    rw [hl1] at g1 hnn
    have hl2 : l1 ≤ 1048576 := by omega
    clear hl1
    go_wp2_with fail
    refine (c_szY_ok N0 C0 _ _ _ _ _ _ _ _ _ 1048576 _ G0.out (by decide)).mono ?_; rw [HL1.out]; rintro e y1 ⟨rfl, x'⟩
    have X := B0.out.trans x'
    obtain ⟨f0, f1, f2, f3, f4⟩ := (BA1_0.out.on x').five
    clear x'
    go_wp2_with fail
    refine (c_szY_no N1 C1 _ _ _ _ _ _ _ _ _ l1 _ g1 hl2 M1_1.out M1_2.out M1_3.out).mono ?_; rintro e y2 ⟨rfl, x'⟩
    have X2 := X.trans x'
    clear x' f0 f1 f2 f3 f4
    go_wp2
    go_ret
    exact ⟨rfl, X2⟩
  have G1 := Lib.hid (show zs1_1.length + zs1_2.length + zs1_3.length ≤ 1048576 by omega)
  have G01 := Lib.hid (show zs1_1.length + zs1_2.length + zs1_3.length ≤ 1048576 - (zs0_1.length + zs0_2.length + zs0_3.length) by omega)
  clear g1
  obtain ⟨rb0, hR⟩ : ∃ rb0, sameYB N0 C0 zs0_1 zs0_2 zs0_3 N1 C1 zs1_1 zs1_2 zs1_3 = (rb0 : Bool) := ⟨_, rfl⟩
  have HV := Lib.hid hR
  clear hR
  go_enter Try.func5, Try.ntmps5
  obtain ⟨l1, hl1⟩ : ∃ l, 1048576 - (zs0_1.length + zs0_2.length + zs0_3.length) = l := ⟨_, rfl⟩
  have HL1 := Lib.hid hl1
  have hnn : (0 : Int) ≤ (l1 : Int) := by omega
  have hl2 := Lib.hid (show l1 ≤ 1048576 by omega)
  clear hl1
  obtain ⟨l2, hl3⟩ : ∃ l, l1 - (zs1_1.length + zs1_2.length + zs1_3.length) = l := ⟨_, rfl⟩
  have HL2 := Lib.hid hl3
  have hnn2 : (0 : Int) ≤ (l2 : Int) := by omega
  clear hl3
  go_wp2_with fail
  refine (c_szY_ok N0 C0 _ _ _ _ _ _ _ _ _ 1048576 _ G0.out (by decide)).mono ?_; rw [HL1.out]; rintro e y1 ⟨rfl, x'⟩
  have B1 := Lib.hid (B0.out.trans x')
  have BA0_1 := Lib.hid (BA0_0.out.on x')
  have BA1_1 := Lib.hid (BA1_0.out.on x')
  have SZ1 := Lib.hid (show w.heap.size + 2 ≤ y1.heap.size from Nat.le_trans (by first | omega | (simp; done) | (simp; omega)) x'.size); clear x'
  obtain ⟨fA10, fA11, fA12, fA13, fA14⟩ := BA1_1.out.five
  go_wp2_with fail
  clear fA10 fA11 fA12 fA13 fA14
  refine (c_szY_ok N1 C1 _ _ _ _ _ _ _ _ _ l1 _ (by have := G01.out; have := HL1.out; omega) hl2.out).mono ?_; rw [HL2.out]; rintro e y2 ⟨rfl, x'⟩
  have B2 := Lib.hid (B1.out.trans x')
  have BA0_2 := Lib.hid (BA0_1.out.on x')
  have BA1_2 := Lib.hid (BA1_1.out.on x')
  have SZ2 := Lib.hid (show y1.heap.size ≤ y2.heap.size from Nat.le_trans (by first | omega | (simp; done) | (simp; omega)) x'.size); clear x'
  obtain ⟨fA00, fA01, fA02, fA03, fA04⟩ := BA0_2.out.five
  obtain ⟨fA10, fA11, fA12, fA13, fA14⟩ := BA1_2.out.five
  go_upto_region 8 with fail
  go_cut [6] (fun s6 wx => s6 = .bool rb0 ∧ Ext y2 wx)
  case first =>
    first | (go_region_held3 (fun w' => w'.cell? ⟨w.heap.size, 0, none⟩ = some (.int .i64 N0) ∧ w'.cell? ⟨w.heap.size, 1, none⟩ = some (.int .i64 C0) ∧ w'.cell? ⟨w.heap.size, 2, none⟩ = some (.slice p0_1 zs0_1.length cap0_1) ∧ w'.cell? ⟨w.heap.size, 3, none⟩ = some (.slice p0_2 zs0_2.length cap0_2) ∧ w'.cell? ⟨w.heap.size, 4, none⟩ = some (.slice p0_3 zs0_3.length cap0_3) ∧ w'.cell? ⟨w.heap.size + 1, 0, none⟩ = some (.int .i64 N1) ∧ w'.cell? ⟨w.heap.size + 1, 1, none⟩ = some (.int .i64 C1) ∧ w'.cell? ⟨w.heap.size + 1, 2, none⟩ = some (.slice p1_1 zs1_1.length cap1_1) ∧ w'.cell? ⟨w.heap.size + 1, 3, none⟩ = some (.slice p1_2 zs1_2.length cap1_2) ∧ w'.cell? ⟨w.heap.size + 1, 4, none⟩ = some (.slice p1_3 zs1_3.length cap1_3)) (first | exact ⟨K0.1, K0.2.1, K0.2.2.1, K0.2.2.2.1, K0.2.2.2.2, K1.1, K1.2.1, K1.2.2.1, K1.2.2.2.1, K1.2.2.2.2⟩ | go_keep) (first | (go_at_call_of 21 (Value.agg #[.int .i64 N0, .int .i64 C0, .slice p0_1 zs0_1.length cap0_1, .slice p0_2 zs0_2.length cap0_2, .slice p0_3 zs0_3.length cap0_3]); refine (c_toY N0 C0 _ _ zs0_1 _ _ zs0_2 _ _ zs0_3 _ G0.out (H0.out.on (B2.out.trans (by (repeat (first | assumption | exact Ext.refl _ | (with_reducible refine Ext.stepS ?_ (by first | exact Nat.le_refl _ | (simp; done) | (simp; omega)) _) | (with_reducible refine Ext.stepN ?_ _) | (with_reducible refine Ext.stepD ?_) | (with_reducible refine Ext.stepA ?_ _))))))).mono ?_; rintro e v0 ⟨a1_s0, c1_s0, a2_s0, c2_s0, a3_s0, c3_s0, rfl, o', x'⟩; have EA : Ext y2 v0 := Ext.trans (by (repeat (first | assumption | exact Ext.refl _ | (with_reducible refine Ext.stepS ?_ (by first | exact Nat.le_refl _ | (simp; done) | (simp; omega)) _) | (with_reducible refine Ext.stepN ?_ _) | (with_reducible refine Ext.stepD ?_) | (with_reducible refine Ext.stepA ?_ _)))) x'; have ES0 := EA.size; have K0 := (BA0_2.out.on EA).five; have K1 := (BA1_2.out.on EA).five; have Os0 := Lib.hid o'; (try (have OO := Lib.hid (Os1.out.on (Ext.trans (by (repeat (first | assumption | exact Ext.refl _ | (with_reducible refine Ext.stepS ?_ (by first | exact Nat.le_refl _ | (simp; done) | (simp; omega)) _) | (with_reducible refine Ext.stepN ?_ _) | (with_reducible refine Ext.stepD ?_) | (with_reducible refine Ext.stepA ?_ _)))) x')); clear Os1; have Os1 := OO; clear OO)); clear o' x') | (go_at_call_of 21 (Value.agg #[.int .i64 N1, .int .i64 C1, .slice p1_1 zs1_1.length cap1_1, .slice p1_2 zs1_2.length cap1_2, .slice p1_3 zs1_3.length cap1_3]); refine (c_toY N1 C1 _ _ zs1_1 _ _ zs1_2 _ _ zs1_3 _ G1.out (H1.out.on (B2.out.trans (by (repeat (first | assumption | exact Ext.refl _ | (with_reducible refine Ext.stepS ?_ (by first | exact Nat.le_refl _ | (simp; done) | (simp; omega)) _) | (with_reducible refine Ext.stepN ?_ _) | (with_reducible refine Ext.stepD ?_) | (with_reducible refine Ext.stepA ?_ _))))))).mono ?_; rintro e v1 ⟨a1_s1, c1_s1, a2_s1, c2_s1, a3_s1, c3_s1, rfl, o', x'⟩; have EA : Ext y2 v1 := Ext.trans (by (repeat (first | assumption | exact Ext.refl _ | (with_reducible refine Ext.stepS ?_ (by first | exact Nat.le_refl _ | (simp; done) | (simp; omega)) _) | (with_reducible refine Ext.stepN ?_ _) | (with_reducible refine Ext.stepD ?_) | (with_reducible refine Ext.stepA ?_ _)))) x'; have ES1 := EA.size; have K0 := (BA0_2.out.on EA).five; have K1 := (BA1_2.out.on EA).five; have Os1 := Lib.hid o'; (try (have OO := Lib.hid (Os0.out.on (Ext.trans (by (repeat (first | assumption | exact Ext.refl _ | (with_reducible refine Ext.stepS ?_ (by first | exact Nat.le_refl _ | (simp; done) | (simp; omega)) _) | (with_reducible refine Ext.stepN ?_ _) | (with_reducible refine Ext.stepD ?_) | (with_reducible refine Ext.stepA ?_ _)))) x')); clear Os0; have Os0 := OO; clear OO)); clear o' x') | (go_at_call 24; refine (c_spec_SameSummary N0 C0 _ _ zs0_1 _ _ zs0_2 _ _ zs0_3 N1 C1 _ _ zs1_1 _ _ zs1_2 _ _ zs1_3 _ HV.out G0.out (Os0.out.on (by (repeat (first | assumption | exact Ext.refl _ | (with_reducible refine Ext.stepS ?_ (by first | exact Nat.le_refl _ | (simp; done) | (simp; omega)) _) | (with_reducible refine Ext.stepN ?_ _) | (with_reducible refine Ext.stepD ?_) | (with_reducible refine Ext.stepA ?_ _))))).reads G1.out (Os1.out.on (by (repeat (first | assumption | exact Ext.refl _ | (with_reducible refine Ext.stepS ?_ (by first | exact Nat.le_refl _ | (simp; done) | (simp; omega)) _) | (with_reducible refine Ext.stepN ?_ _) | (with_reducible refine Ext.stepD ?_) | (with_reducible refine Ext.stepA ?_ _))))).reads FB0_1.out FB1_1.out).mono ?_; rintro e vf ⟨rfl, x'⟩; have EA : Ext y2 vf := Ext.trans (by (repeat (first | assumption | exact Ext.refl _ | (with_reducible refine Ext.stepS ?_ (by first | exact Nat.le_refl _ | (simp; done) | (simp; omega)) _) | (with_reducible refine Ext.stepN ?_ _) | (with_reducible refine Ext.stepD ?_) | (with_reducible refine Ext.stepA ?_ _)))) x'; have EH := Lib.hid EA; have K0 := (BA0_2.out.on EA).five; have K1 := (BA1_2.out.on EA).five; clear x'))) | fail
    all_goals (go_wp2_with fail; go_meet; exact ⟨rfl, EA⟩)
  case rest =>
    obtain ⟨rfl, x'⟩ := hcut
    clear fA00 fA01 fA02 fA03 fA04 fA10 fA11 fA12 fA13 fA14
    have B3 := Lib.hid (B2.out.trans x')
    have BA0_3 := Lib.hid (BA0_2.out.on x')
    have BA1_3 := Lib.hid (BA1_2.out.on x')
    have SZ3 := Lib.hid (show y2.heap.size ≤ wc.heap.size from x'.size); clear x'
    obtain ⟨fA00, fA01, fA02, fA03, fA04⟩ := BA0_3.out.five
    go_wp2_with fail
    clear fA00 fA01 fA02 fA03 fA04
    refine (c_toY N0 C0 _ _ zs0_1 _ _ zs0_2 _ _ zs0_3 _ G0.out (H0.out.on B3.out)).mono ?_; rintro e y4 ⟨a1_x0, c1_x0, a2_x0, c2_x0, a3_x0, c3_x0, rfl, o', x'⟩
    have B4 := Lib.hid (B3.out.trans x')
    have BA0_4 := Lib.hid (BA0_3.out.on x')
    have BA1_4 := Lib.hid (BA1_3.out.on x')
    have Ox0_4 := Lib.hid (o'.wide (lo' := wc.heap.size) (hi' := y4.heap.size) (by first | omega | (simp; done) | (simp; omega)) (Nat.le_refl _)); clear o'
    have SZ4 := Lib.hid (show wc.heap.size ≤ y4.heap.size from Nat.le_trans (by first | omega | (simp; done) | (simp; omega)) x'.size); clear x'
    replace B4 := Lib.hid (B4.out.stepA (.cells #[.int .i64 N0, .int .i64 C0, .slice a1_x0 zs0_1.length c1_x0, .slice a2_x0 zs0_2.length c2_x0, .slice a3_x0 zs0_3.length c3_x0] 31))
    replace BA0_4 := Lib.hid (BA0_4.out.past (.cells #[.int .i64 N0, .int .i64 C0, .slice a1_x0 zs0_1.length c1_x0, .slice a2_x0 zs0_2.length c2_x0, .slice a3_x0 zs0_3.length c3_x0] 31))
    replace BA1_4 := Lib.hid (BA1_4.out.past (.cells #[.int .i64 N0, .int .i64 C0, .slice a1_x0 zs0_1.length c1_x0, .slice a2_x0 zs0_2.length c2_x0, .slice a3_x0 zs0_3.length c3_x0] 31))
    replace Ox0_4 := Lib.hid (Ox0_4.out.on (Ext.alloc y4 (.cells #[.int .i64 N0, .int .i64 C0, .slice a1_x0 zs0_1.length c1_x0, .slice a2_x0 zs0_2.length c2_x0, .slice a3_x0 zs0_3.length c3_x0] 31)))
    have Bx0_4 := Lib.hid (Box.alloc y4 #[.int .i64 N0, .int .i64 C0, .slice a1_x0 zs0_1.length c1_x0, .slice a2_x0 zs0_2.length c2_x0, .slice a3_x0 zs0_3.length c3_x0] 31)
    obtain ⟨fA10, fA11, fA12, fA13, fA14⟩ := BA1_4.out.five
    go_wp2_with fail
    clear fA10 fA11 fA12 fA13 fA14
    refine (c_toY N1 C1 _ _ zs1_1 _ _ zs1_2 _ _ zs1_3 _ G1.out (H1.out.on B4.out)).mono ?_; rintro e y5 ⟨a1_x1, c1_x1, a2_x1, c2_x1, a3_x1, c3_x1, rfl, o', x'⟩
    have B5 := Lib.hid (B4.out.trans x')
    have BA0_5 := Lib.hid (BA0_4.out.on x')
    have BA1_5 := Lib.hid (BA1_4.out.on x')
    have Bx0_5 := Lib.hid (Bx0_4.out.on x')
    have Ox0_5 := Lib.hid (Ox0_4.out.on x')
    have Ox1_5 := Lib.hid (o'.wide (lo' := y4.heap.size + 1) (hi' := y5.heap.size) (by first | omega | (simp; done) | (simp; omega)) (Nat.le_refl _)); clear o'
    have SZ5 := Lib.hid (show y4.heap.size + 1 ≤ y5.heap.size from Nat.le_trans (by first | omega | (simp; done) | (simp; omega)) x'.size); clear x'
    replace B5 := Lib.hid (B5.out.stepA (.cells #[.int .i64 N1, .int .i64 C1, .slice a1_x1 zs1_1.length c1_x1, .slice a2_x1 zs1_2.length c2_x1, .slice a3_x1 zs1_3.length c3_x1] 31))
    replace BA0_5 := Lib.hid (BA0_5.out.past (.cells #[.int .i64 N1, .int .i64 C1, .slice a1_x1 zs1_1.length c1_x1, .slice a2_x1 zs1_2.length c2_x1, .slice a3_x1 zs1_3.length c3_x1] 31))
    replace BA1_5 := Lib.hid (BA1_5.out.past (.cells #[.int .i64 N1, .int .i64 C1, .slice a1_x1 zs1_1.length c1_x1, .slice a2_x1 zs1_2.length c2_x1, .slice a3_x1 zs1_3.length c3_x1] 31))
    replace Bx0_5 := Lib.hid (Bx0_5.out.past (.cells #[.int .i64 N1, .int .i64 C1, .slice a1_x1 zs1_1.length c1_x1, .slice a2_x1 zs1_2.length c2_x1, .slice a3_x1 zs1_3.length c3_x1] 31))
    replace Ox0_5 := Lib.hid (Ox0_5.out.on (Ext.alloc y5 (.cells #[.int .i64 N1, .int .i64 C1, .slice a1_x1 zs1_1.length c1_x1, .slice a2_x1 zs1_2.length c2_x1, .slice a3_x1 zs1_3.length c3_x1] 31)))
    replace Ox1_5 := Lib.hid (Ox1_5.out.on (Ext.alloc y5 (.cells #[.int .i64 N1, .int .i64 C1, .slice a1_x1 zs1_1.length c1_x1, .slice a2_x1 zs1_2.length c2_x1, .slice a3_x1 zs1_3.length c3_x1] 31)))
    have Bx1_5 := Lib.hid (Box.alloc y5 #[.int .i64 N1, .int .i64 C1, .slice a1_x1 zs1_1.length c1_x1, .slice a2_x1 zs1_2.length c2_x1, .slice a3_x1 zs1_3.length c3_x1] 31)
    obtain ⟨fx00, fx01, fx02, fx03, fx04⟩ := Bx0_5.out.five
    obtain ⟨fx10, fx11, fx12, fx13, fx14⟩ := Bx1_5.out.five
    go_wp2_with fail
    clear fx00 fx01 fx02 fx03 fx04 fx10 fx11 fx12 fx13 fx14
    refine (c_impl_SameSummary N0 C0 _ _ zs0_1 _ _ zs0_2 _ _ zs0_3 N1 C1 _ _ zs1_1 _ _ zs1_2 _ _ zs1_3 _ HV.out G0.out Ox0_5.out.reads G1.out Ox1_5.out.reads FB0_1.out FB1_1.out).mono ?_; rintro e y6 ⟨rfl, x'⟩
    have B6 := Lib.hid (B5.out.trans x')
    have BA0_6 := Lib.hid (BA0_5.out.on x')
    have BA1_6 := Lib.hid (BA1_5.out.on x')
    have Bx0_6 := Lib.hid (Bx0_5.out.on x')
    have Bx1_6 := Lib.hid (Bx1_5.out.on x')
    have Ox0_6 := Lib.hid (Ox0_5.out.on x')
    have Ox1_6 := Lib.hid (Ox1_5.out.on x')
    have SZ6 := Lib.hid (show y5.heap.size + 1 ≤ y6.heap.size from Nat.le_trans (by first | omega | (simp; done) | (simp; omega)) x'.size); clear x'
    obtain ⟨fA00, fA01, fA02, fA03, fA04⟩ := BA0_6.out.five
    obtain ⟨fx00, fx01, fx02, fx03, fx04⟩ := Bx0_6.out.five
    go_wp2_with fail
    go_region_held3 (fun w' => w'.cell? ⟨w.heap.size, 0, none⟩ = some (.int .i64 N0) ∧ w'.cell? ⟨w.heap.size, 1, none⟩ = some (.int .i64 C0) ∧ w'.cell? ⟨w.heap.size, 2, none⟩ = some (.slice p0_1 zs0_1.length cap0_1) ∧ w'.cell? ⟨w.heap.size, 3, none⟩ = some (.slice p0_2 zs0_2.length cap0_2) ∧ w'.cell? ⟨w.heap.size, 4, none⟩ = some (.slice p0_3 zs0_3.length cap0_3) ∧ w'.cell? ⟨y4.heap.size, 0, none⟩ = some (.int .i64 N0) ∧ w'.cell? ⟨y4.heap.size, 1, none⟩ = some (.int .i64 C0) ∧ w'.cell? ⟨y4.heap.size, 2, none⟩ = some (.slice a1_x0 zs0_1.length c1_x0) ∧ w'.cell? ⟨y4.heap.size, 3, none⟩ = some (.slice a2_x0 zs0_2.length c2_x0) ∧ w'.cell? ⟨y4.heap.size, 4, none⟩ = some (.slice a3_x0 zs0_3.length c3_x0)) (first | exact ⟨KA.1, KA.2.1, KA.2.2.1, KA.2.2.2.1, KA.2.2.2.2, KX.1, KX.2.1, KX.2.2.1, KX.2.2.2.1, KX.2.2.2.2⟩ | go_keep) (first | (go_at_call 21; refine (c_toY N0 C0 _ _ zs0_1 _ _ zs0_2 _ _ zs0_3 _ G0.out (H0.out.on B6.out.stepD)).mono ?_; rintro e y7 ⟨a1_t0, c1_t0, a2_t0, c2_t0, a3_t0, c3_t0, rfl, o', x'⟩; have B7 := Lib.hid (B6.out.stepD.trans x'); have BA0_7 := Lib.hid ((BA0_6.out.on (Ext.drew _)).on x'); have BA1_7 := Lib.hid ((BA1_6.out.on (Ext.drew _)).on x'); have Bx0_7 := Lib.hid ((Bx0_6.out.on (Ext.drew _)).on x'); have Bx1_7 := Lib.hid ((Bx1_6.out.on (Ext.drew _)).on x'); have Ox0_7 := Lib.hid ((Ox0_6.out.on (Ext.drew _)).on x'); have Ox1_7 := Lib.hid ((Ox1_6.out.on (Ext.drew _)).on x'); have Ot0_7 := Lib.hid (o'.wide (lo' := y6.heap.size) (hi' := y7.heap.size) (by first | omega | (simp; done) | (simp; omega)) (Nat.le_refl _)); have SZ7 := Lib.hid (show y6.heap.size ≤ y7.heap.size from Nat.le_trans (by first | omega | (simp; done) | (simp; omega)) x'.size); have KA := BA0_7.out.five; have KX := Bx0_7.out.five; clear o' x') | (go_at_call 23; refine (c_eqY N0 C0 _ _ _ _ zs0_1 _ _ _ _ zs0_2 _ _ _ _ zs0_3 _ G0.out Ox0_7.out.reads Ot0_7.out.reads).mono ?_; rintro e y8 ⟨rfl, x'⟩; have B8 := Lib.hid (B7.out.trans x'); have BA0_8 := Lib.hid (BA0_7.out.on x'); have BA1_8 := Lib.hid (BA1_7.out.on x'); have Bx0_8 := Lib.hid (Bx0_7.out.on x'); have Bx1_8 := Lib.hid (Bx1_7.out.on x'); have Ox0_8 := Lib.hid (Ox0_7.out.on x'); have Ox1_8 := Lib.hid (Ox1_7.out.on x'); have Ot0_8 := Lib.hid (Ot0_7.out.on x'); have SZ8 := Lib.hid (show y7.heap.size ≤ y8.heap.size from x'.size); clear KA KX; have KA := BA0_8.out.five; have KX := Bx0_8.out.five; clear x'))
    clear KA KX fA00 fA01 fA02 fA03 fA04 fx00 fx01 fx02 fx03 fx04
    obtain ⟨fA10, fA11, fA12, fA13, fA14⟩ := BA1_8.out.five
    obtain ⟨fx10, fx11, fx12, fx13, fx14⟩ := Bx1_8.out.five
    go_wp2_with fail
    go_region_held3 (fun w' => w'.cell? ⟨w.heap.size + 1, 0, none⟩ = some (.int .i64 N1) ∧ w'.cell? ⟨w.heap.size + 1, 1, none⟩ = some (.int .i64 C1) ∧ w'.cell? ⟨w.heap.size + 1, 2, none⟩ = some (.slice p1_1 zs1_1.length cap1_1) ∧ w'.cell? ⟨w.heap.size + 1, 3, none⟩ = some (.slice p1_2 zs1_2.length cap1_2) ∧ w'.cell? ⟨w.heap.size + 1, 4, none⟩ = some (.slice p1_3 zs1_3.length cap1_3) ∧ w'.cell? ⟨y5.heap.size, 0, none⟩ = some (.int .i64 N1) ∧ w'.cell? ⟨y5.heap.size, 1, none⟩ = some (.int .i64 C1) ∧ w'.cell? ⟨y5.heap.size, 2, none⟩ = some (.slice a1_x1 zs1_1.length c1_x1) ∧ w'.cell? ⟨y5.heap.size, 3, none⟩ = some (.slice a2_x1 zs1_2.length c2_x1) ∧ w'.cell? ⟨y5.heap.size, 4, none⟩ = some (.slice a3_x1 zs1_3.length c3_x1)) (first | exact ⟨KA.1, KA.2.1, KA.2.2.1, KA.2.2.2.1, KA.2.2.2.2, KX.1, KX.2.1, KX.2.2.1, KX.2.2.2.1, KX.2.2.2.2⟩ | go_keep) (first | (go_at_call 21; refine (c_toY N1 C1 _ _ zs1_1 _ _ zs1_2 _ _ zs1_3 _ G1.out (H1.out.on B8.out.stepD)).mono ?_; rintro e y9 ⟨a1_t1, c1_t1, a2_t1, c2_t1, a3_t1, c3_t1, rfl, o', x'⟩; have B9 := Lib.hid (B8.out.stepD.trans x'); have BA0_9 := Lib.hid ((BA0_8.out.on (Ext.drew _)).on x'); have BA1_9 := Lib.hid ((BA1_8.out.on (Ext.drew _)).on x'); have Bx0_9 := Lib.hid ((Bx0_8.out.on (Ext.drew _)).on x'); have Bx1_9 := Lib.hid ((Bx1_8.out.on (Ext.drew _)).on x'); have Ox0_9 := Lib.hid ((Ox0_8.out.on (Ext.drew _)).on x'); have Ox1_9 := Lib.hid ((Ox1_8.out.on (Ext.drew _)).on x'); have Ot0_9 := Lib.hid ((Ot0_8.out.on (Ext.drew _)).on x'); have Ot1_9 := Lib.hid (o'.wide (lo' := y8.heap.size) (hi' := y9.heap.size) (by first | omega | (simp; done) | (simp; omega)) (Nat.le_refl _)); have SZ9 := Lib.hid (show y8.heap.size ≤ y9.heap.size from Nat.le_trans (by first | omega | (simp; done) | (simp; omega)) x'.size); have KA := BA1_9.out.five; have KX := Bx1_9.out.five; clear o' x') | (go_at_call 23; refine (c_eqY N1 C1 _ _ _ _ zs1_1 _ _ _ _ zs1_2 _ _ _ _ zs1_3 _ G1.out Ox1_9.out.reads Ot1_9.out.reads).mono ?_; rintro e y10 ⟨rfl, x'⟩; have B10 := Lib.hid (B9.out.trans x'); have BA0_10 := Lib.hid (BA0_9.out.on x'); have BA1_10 := Lib.hid (BA1_9.out.on x'); have Bx0_10 := Lib.hid (Bx0_9.out.on x'); have Bx1_10 := Lib.hid (Bx1_9.out.on x'); have Ox0_10 := Lib.hid (Ox0_9.out.on x'); have Ox1_10 := Lib.hid (Ox1_9.out.on x'); have Ot0_10 := Lib.hid (Ot0_9.out.on x'); have Ot1_10 := Lib.hid (Ot1_9.out.on x'); have SZ10 := Lib.hid (show y9.heap.size ≤ y10.heap.size from x'.size); clear KA KX; have KA := BA1_10.out.five; have KX := Bx1_10.out.five; clear x'))
    clear KA KX fA10 fA11 fA12 fA13 fA14 fx10 fx11 fx12 fx13 fx14
    go_wp2
    go_ret
    exact ⟨rfl, B10.out⟩
end Go.Proofs.Ytmgkbgdbahijnaa
