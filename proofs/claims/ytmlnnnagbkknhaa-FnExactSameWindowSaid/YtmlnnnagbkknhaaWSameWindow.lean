/- The walk of the law FnExactSameWindow. -/
import Derived.Test.YtmlnnnagbkknhaaWnc
import Derived.Deep.RegionHeld3
import Derived.Deep.DeepCutAuto
import Derived.Deep.LoopGhost
import Derived.WalkLawsBesides
namespace Go.Proofs.Ytmlnnnagbkknhaa
open Go.ChangeShapes Go.WideShapes Go.ChangeAt Go.RowKit
set_option linter.unusedVariables false
set_option maxRecDepth 100000 in
set_option maxHeartbeats 8000000 in
theorem walk_FnExactSameWindow (L0 : Int) (P0 : Int) (p0_1 : Option Addr) (len0_1 cap0_1 : Nat) (z0_1 : List Int) (p0_2 : Option Addr) (len0_2 cap0_2 : Nat) (z0_2 : List Int) (L1 : Int) (P1 : Int) (p1_1 : Option Addr) (len1_1 cap1_1 : Nat) (z1_1 : List Int) (p1_2 : Option Addr) (len1_2 cap1_2 : Nat) (z1_2 : List Int) (w : World) (w0_0 : (Lit.int .i64 L0).wf = true) (w0_1 : (Lit.int .i64 P0).wf = true) (w0_2 : IsRow .i64 w p0_1 len0_1 cap0_1 z0_1) (w0_3 : IsRow .i64 w p0_2 len0_2 cap0_2 z0_2) (w1_0 : (Lit.int .i64 L1).wf = true) (w1_1 : (Lit.int .i64 P1).wf = true) (w1_2 : IsRow .i64 w p1_1 len1_1 cap1_1 z1_1) (w1_3 : IsRow .i64 w p1_2 len1_2 cap1_2 z1_2) :
    Calls Try.prog 4 #[.agg #[.int .i64 L0, .int .i64 P0, .slice p0_1 len0_1 cap0_1, .slice p0_2 len0_2 cap0_2], .agg #[.int .i64 L1, .int .i64 P1, .slice p1_1 len1_1 cap1_1, .slice p1_2 len1_2 cap1_2]] w fun e w' => e = .returned (.bool true) ∧ Below w.heap.size w w' := by
  clear w0_0
  clear w0_1
  obtain ⟨h0_1, m0_1⟩ := w0_2.rd
  obtain ⟨zs0_1, hz0_1⟩ : ∃ zs, z0_1.take len0_1 = zs := ⟨_, rfl⟩
  rw [hz0_1] at h0_1
  have hl0_1 := h0_1.int.1
  subst hl0_1
  have H0_1 := Lib.hid h0_1; have M0_1 := Lib.hid m0_1
  clear hz0_1 h0_1 m0_1 w0_2
  obtain ⟨h0_2, m0_2⟩ := w0_3.rd
  obtain ⟨zs0_2, hz0_2⟩ : ∃ zs, z0_2.take len0_2 = zs := ⟨_, rfl⟩
  rw [hz0_2] at h0_2
  have hl0_2 := h0_2.int.1
  subst hl0_2
  have H0_2 := Lib.hid h0_2; have M0_2 := Lib.hid m0_2
  clear hz0_2 h0_2 m0_2 w0_3
  have H0 := Lib.hid (show Reads2 w p0_1 zs0_1.length (ints zs0_1) p0_2 zs0_2.length (ints zs0_2) from ⟨H0_1.out, H0_2.out⟩)
  clear w1_0
  clear w1_1
  obtain ⟨h1_1, m1_1⟩ := w1_2.rd
  obtain ⟨zs1_1, hz1_1⟩ : ∃ zs, z1_1.take len1_1 = zs := ⟨_, rfl⟩
  rw [hz1_1] at h1_1
  have hl1_1 := h1_1.int.1
  subst hl1_1
  have H1_1 := Lib.hid h1_1; have M1_1 := Lib.hid m1_1
  clear hz1_1 h1_1 m1_1 w1_2
  obtain ⟨h1_2, m1_2⟩ := w1_3.rd
  obtain ⟨zs1_2, hz1_2⟩ : ∃ zs, z1_2.take len1_2 = zs := ⟨_, rfl⟩
  rw [hz1_2] at h1_2
  have hl1_2 := h1_2.int.1
  subst hl1_2
  have H1_2 := Lib.hid h1_2; have M1_2 := Lib.hid m1_2
  clear hz1_2 h1_2 m1_2 w1_3
  have H1 := Lib.hid (show Reads2 w p1_1 zs1_1.length (ints zs1_1) p1_2 zs1_2.length (ints zs1_2) from ⟨H1_1.out, H1_2.out⟩)
  have BA0_0 := Lib.hid (Box.past (Box.alloc_at w #[.int .i64 L0, .int .i64 P0, .slice p0_1 zs0_1.length cap0_1, .slice p0_2 zs0_2.length cap0_2] 24 (b := w.heap.size) (by first | omega | (simp; done) | (simp; omega))) (.cells #[.int .i64 L1, .int .i64 P1, .slice p1_1 zs1_1.length cap1_1, .slice p1_2 zs1_2.length cap1_2] 24))
  have BA1_0 := Lib.hid (Box.alloc_at (w.alloc (.cells #[.int .i64 L0, .int .i64 P0, .slice p0_1 zs0_1.length cap0_1, .slice p0_2 zs0_2.length cap0_2] 24)) #[.int .i64 L1, .int .i64 P1, .slice p1_1 zs1_1.length cap1_1, .slice p1_2 zs1_2.length cap1_2] 24 (b := w.heap.size + 1) (by first | omega | (simp; done) | (simp; omega)))
  have B0 := Lib.hid (show Ext w ((w.alloc (.cells #[.int .i64 L0, .int .i64 P0, .slice p0_1 zs0_1.length cap0_1, .slice p0_2 zs0_2.length cap0_2] 24)).alloc (.cells #[.int .i64 L1, .int .i64 P1, .slice p1_1 zs1_1.length cap1_1, .slice p1_2 zs1_2.length cap1_2] 24)) from by (repeat (first | assumption | exact Ext.refl _ | (with_reducible refine Ext.stepS ?_ (by first | exact Nat.le_refl _ | (simp; done) | (simp; omega)) _) | (with_reducible refine Ext.stepN ?_ _) | (with_reducible refine Ext.stepD ?_) | (with_reducible refine Ext.stepA ?_ _))))
  by_cases g0 : 1048576 < zs0_1.length + zs0_2.length
  · go_enter Try.func4, Try.ntmps4
    go_wp2_with fail
    refine (c_szN_no L0 P0 _ _ _ _ _ _ 1048576 _ g0 (by decide) M0_1.out M0_2.out).mono ?_; rintro e y1 ⟨rfl, x'⟩
    have X := B0.out.trans x'
    clear x'
    go_wp2
    go_ret
    exact ⟨rfl, X⟩
  have G0 := Lib.hid (show zs0_1.length + zs0_2.length ≤ 1048576 by omega)
  clear g0
  by_cases g1 : 1048576 - (zs0_1.length + zs0_2.length) < zs1_1.length + zs1_2.length
  · go_enter Try.func4, Try.ntmps4
    have hnn : (0 : Int) ≤ ((1048576 - (zs0_1.length + zs0_2.length) : Nat) : Int) := by omega
    obtain ⟨l1, hl1⟩ : ∃ l, 1048576 - (zs0_1.length + zs0_2.length) = l := ⟨_, rfl⟩
    have HL1 := Lib.hid hl1
    rw [hl1] at g1 hnn
    have hl2 : l1 ≤ 1048576 := by omega
    clear hl1
    go_wp2_with fail
    refine (c_szN_ok L0 P0 _ _ _ _ _ _ 1048576 _ G0.out (by decide)).mono ?_; rw [HL1.out]; rintro e y1 ⟨rfl, x'⟩
    have X := B0.out.trans x'
    obtain ⟨f0, f1, f2, f3⟩ := (BA1_0.out.on x').four
    clear x'
    go_wp2_with fail
    refine (c_szN_no L1 P1 _ _ _ _ _ _ l1 _ g1 hl2 M1_1.out M1_2.out).mono ?_; rintro e y2 ⟨rfl, x'⟩
    have X2 := X.trans x'
    clear x' f0 f1 f2 f3
    go_wp2
    go_ret
    exact ⟨rfl, X2⟩
  have G1 := Lib.hid (show zs1_1.length + zs1_2.length ≤ 1048576 by omega)
  have G01 := Lib.hid (show zs1_1.length + zs1_2.length ≤ 1048576 - (zs0_1.length + zs0_2.length) by omega)
  clear g1
  obtain ⟨rb0, hR⟩ : ∃ rb0, sameWB L0 P0 zs0_1 zs0_2 L1 P1 zs1_1 zs1_2 = (rb0 : Bool) := ⟨_, rfl⟩
  have HV := Lib.hid hR
  clear hR
  go_enter Try.func4, Try.ntmps4
  obtain ⟨l1, hl1⟩ : ∃ l, 1048576 - (zs0_1.length + zs0_2.length) = l := ⟨_, rfl⟩
  have HL1 := Lib.hid hl1
  have hnn : (0 : Int) ≤ (l1 : Int) := by omega
  have hl2 := Lib.hid (show l1 ≤ 1048576 by omega)
  clear hl1
  obtain ⟨l2, hl3⟩ : ∃ l, l1 - (zs1_1.length + zs1_2.length) = l := ⟨_, rfl⟩
  have HL2 := Lib.hid hl3
  have hnn2 : (0 : Int) ≤ (l2 : Int) := by omega
  clear hl3
  go_wp2_with fail
  refine (c_szN_ok L0 P0 _ _ _ _ _ _ 1048576 _ G0.out (by decide)).mono ?_; rw [HL1.out]; rintro e y1 ⟨rfl, x'⟩
  have B1 := Lib.hid (B0.out.trans x')
  have BA0_1 := Lib.hid (BA0_0.out.on x')
  have BA1_1 := Lib.hid (BA1_0.out.on x')
  have SZ1 := Lib.hid (show w.heap.size + 2 ≤ y1.heap.size from Nat.le_trans (by first | omega | (simp; done) | (simp; omega)) x'.size); clear x'
  obtain ⟨fA10, fA11, fA12, fA13⟩ := BA1_1.out.four
  go_wp2_with fail
  clear fA10 fA11 fA12 fA13
  refine (c_szN_ok L1 P1 _ _ _ _ _ _ l1 _ (by have := G01.out; have := HL1.out; omega) hl2.out).mono ?_; rw [HL2.out]; rintro e y2 ⟨rfl, x'⟩
  have B2 := Lib.hid (B1.out.trans x')
  have BA0_2 := Lib.hid (BA0_1.out.on x')
  have BA1_2 := Lib.hid (BA1_1.out.on x')
  have SZ2 := Lib.hid (show y1.heap.size ≤ y2.heap.size from Nat.le_trans (by first | omega | (simp; done) | (simp; omega)) x'.size); clear x'
  obtain ⟨fA00, fA01, fA02, fA03⟩ := BA0_2.out.four
  obtain ⟨fA10, fA11, fA12, fA13⟩ := BA1_2.out.four
  go_upto_region 8 with fail
  go_cut [6] (fun s6 wx => s6 = .bool rb0 ∧ Ext y2 wx)
  case first =>
    first | (go_region_held3 (fun w' => w'.cell? ⟨w.heap.size, 0, none⟩ = some (.int .i64 L0) ∧ w'.cell? ⟨w.heap.size, 1, none⟩ = some (.int .i64 P0) ∧ w'.cell? ⟨w.heap.size, 2, none⟩ = some (.slice p0_1 zs0_1.length cap0_1) ∧ w'.cell? ⟨w.heap.size, 3, none⟩ = some (.slice p0_2 zs0_2.length cap0_2) ∧ w'.cell? ⟨w.heap.size + 1, 0, none⟩ = some (.int .i64 L1) ∧ w'.cell? ⟨w.heap.size + 1, 1, none⟩ = some (.int .i64 P1) ∧ w'.cell? ⟨w.heap.size + 1, 2, none⟩ = some (.slice p1_1 zs1_1.length cap1_1) ∧ w'.cell? ⟨w.heap.size + 1, 3, none⟩ = some (.slice p1_2 zs1_2.length cap1_2)) (first | exact ⟨K0.1, K0.2.1, K0.2.2.1, K0.2.2.2, K1.1, K1.2.1, K1.2.2.1, K1.2.2.2⟩ | go_keep) (first | (go_at_call_of 15 (Value.agg #[.int .i64 L0, .int .i64 P0, .slice p0_1 zs0_1.length cap0_1, .slice p0_2 zs0_2.length cap0_2]); refine (c_toN L0 P0 _ _ zs0_1 _ _ zs0_2 _ G0.out (H0.out.on (B2.out.trans (by (repeat (first | assumption | exact Ext.refl _ | (with_reducible refine Ext.stepS ?_ (by first | exact Nat.le_refl _ | (simp; done) | (simp; omega)) _) | (with_reducible refine Ext.stepN ?_ _) | (with_reducible refine Ext.stepD ?_) | (with_reducible refine Ext.stepA ?_ _))))))).mono ?_; rintro e v0 ⟨a1_s0, c1_s0, a2_s0, c2_s0, rfl, o', x'⟩; have EA : Ext y2 v0 := Ext.trans (by (repeat (first | assumption | exact Ext.refl _ | (with_reducible refine Ext.stepS ?_ (by first | exact Nat.le_refl _ | (simp; done) | (simp; omega)) _) | (with_reducible refine Ext.stepN ?_ _) | (with_reducible refine Ext.stepD ?_) | (with_reducible refine Ext.stepA ?_ _)))) x'; have ES0 := EA.size; have K0 := (BA0_2.out.on EA).four; have K1 := (BA1_2.out.on EA).four; have Os0 := Lib.hid o'; (try (have OO := Lib.hid (Os1.out.on (Ext.trans (by (repeat (first | assumption | exact Ext.refl _ | (with_reducible refine Ext.stepS ?_ (by first | exact Nat.le_refl _ | (simp; done) | (simp; omega)) _) | (with_reducible refine Ext.stepN ?_ _) | (with_reducible refine Ext.stepD ?_) | (with_reducible refine Ext.stepA ?_ _)))) x')); clear Os1; have Os1 := OO; clear OO)); clear o' x') | (go_at_call_of 15 (Value.agg #[.int .i64 L1, .int .i64 P1, .slice p1_1 zs1_1.length cap1_1, .slice p1_2 zs1_2.length cap1_2]); refine (c_toN L1 P1 _ _ zs1_1 _ _ zs1_2 _ G1.out (H1.out.on (B2.out.trans (by (repeat (first | assumption | exact Ext.refl _ | (with_reducible refine Ext.stepS ?_ (by first | exact Nat.le_refl _ | (simp; done) | (simp; omega)) _) | (with_reducible refine Ext.stepN ?_ _) | (with_reducible refine Ext.stepD ?_) | (with_reducible refine Ext.stepA ?_ _))))))).mono ?_; rintro e v1 ⟨a1_s1, c1_s1, a2_s1, c2_s1, rfl, o', x'⟩; have EA : Ext y2 v1 := Ext.trans (by (repeat (first | assumption | exact Ext.refl _ | (with_reducible refine Ext.stepS ?_ (by first | exact Nat.le_refl _ | (simp; done) | (simp; omega)) _) | (with_reducible refine Ext.stepN ?_ _) | (with_reducible refine Ext.stepD ?_) | (with_reducible refine Ext.stepA ?_ _)))) x'; have ES1 := EA.size; have K0 := (BA0_2.out.on EA).four; have K1 := (BA1_2.out.on EA).four; have Os1 := Lib.hid o'; (try (have OO := Lib.hid (Os0.out.on (Ext.trans (by (repeat (first | assumption | exact Ext.refl _ | (with_reducible refine Ext.stepS ?_ (by first | exact Nat.le_refl _ | (simp; done) | (simp; omega)) _) | (with_reducible refine Ext.stepN ?_ _) | (with_reducible refine Ext.stepD ?_) | (with_reducible refine Ext.stepA ?_ _)))) x')); clear Os0; have Os0 := OO; clear OO)); clear o' x') | (go_at_call 18; refine (c_spec_SameWindow L0 P0 _ _ zs0_1 _ _ zs0_2 L1 P1 _ _ zs1_1 _ _ zs1_2 _ HV.out G0.out (Os0.out.on (by (repeat (first | assumption | exact Ext.refl _ | (with_reducible refine Ext.stepS ?_ (by first | exact Nat.le_refl _ | (simp; done) | (simp; omega)) _) | (with_reducible refine Ext.stepN ?_ _) | (with_reducible refine Ext.stepD ?_) | (with_reducible refine Ext.stepA ?_ _))))).reads G1.out (Os1.out.on (by (repeat (first | assumption | exact Ext.refl _ | (with_reducible refine Ext.stepS ?_ (by first | exact Nat.le_refl _ | (simp; done) | (simp; omega)) _) | (with_reducible refine Ext.stepN ?_ _) | (with_reducible refine Ext.stepD ?_) | (with_reducible refine Ext.stepA ?_ _))))).reads).mono ?_; rintro e vf ⟨rfl, x'⟩; have EA : Ext y2 vf := Ext.trans (by (repeat (first | assumption | exact Ext.refl _ | (with_reducible refine Ext.stepS ?_ (by first | exact Nat.le_refl _ | (simp; done) | (simp; omega)) _) | (with_reducible refine Ext.stepN ?_ _) | (with_reducible refine Ext.stepD ?_) | (with_reducible refine Ext.stepA ?_ _)))) x'; have EH := Lib.hid EA; have K0 := (BA0_2.out.on EA).four; have K1 := (BA1_2.out.on EA).four; clear x'))) | fail
    all_goals (go_wp2_with fail; go_meet; exact ⟨rfl, EA⟩)
  case rest =>
    obtain ⟨rfl, x'⟩ := hcut
    clear fA00 fA01 fA02 fA03 fA10 fA11 fA12 fA13
    have B3 := Lib.hid (B2.out.trans x')
    have BA0_3 := Lib.hid (BA0_2.out.on x')
    have BA1_3 := Lib.hid (BA1_2.out.on x')
    have SZ3 := Lib.hid (show y2.heap.size ≤ wc.heap.size from x'.size); clear x'
    obtain ⟨fA00, fA01, fA02, fA03⟩ := BA0_3.out.four
    go_wp2_with fail
    clear fA00 fA01 fA02 fA03
    refine (c_toN L0 P0 _ _ zs0_1 _ _ zs0_2 _ G0.out (H0.out.on B3.out)).mono ?_; rintro e y4 ⟨a1_x0, c1_x0, a2_x0, c2_x0, rfl, o', x'⟩
    have B4 := Lib.hid (B3.out.trans x')
    have BA0_4 := Lib.hid (BA0_3.out.on x')
    have BA1_4 := Lib.hid (BA1_3.out.on x')
    have Ox0_4 := Lib.hid (o'.wide (lo' := wc.heap.size) (hi' := y4.heap.size) (by first | omega | (simp; done) | (simp; omega)) (Nat.le_refl _)); clear o'
    have SZ4 := Lib.hid (show wc.heap.size ≤ y4.heap.size from Nat.le_trans (by first | omega | (simp; done) | (simp; omega)) x'.size); clear x'
    replace B4 := Lib.hid (B4.out.stepA (.cells #[.int .i64 L0, .int .i64 P0, .slice a1_x0 zs0_1.length c1_x0, .slice a2_x0 zs0_2.length c2_x0] 27))
    replace BA0_4 := Lib.hid (BA0_4.out.past (.cells #[.int .i64 L0, .int .i64 P0, .slice a1_x0 zs0_1.length c1_x0, .slice a2_x0 zs0_2.length c2_x0] 27))
    replace BA1_4 := Lib.hid (BA1_4.out.past (.cells #[.int .i64 L0, .int .i64 P0, .slice a1_x0 zs0_1.length c1_x0, .slice a2_x0 zs0_2.length c2_x0] 27))
    replace Ox0_4 := Lib.hid (Ox0_4.out.on (Ext.alloc y4 (.cells #[.int .i64 L0, .int .i64 P0, .slice a1_x0 zs0_1.length c1_x0, .slice a2_x0 zs0_2.length c2_x0] 27)))
    have Bx0_4 := Lib.hid (Box.alloc y4 #[.int .i64 L0, .int .i64 P0, .slice a1_x0 zs0_1.length c1_x0, .slice a2_x0 zs0_2.length c2_x0] 27)
    obtain ⟨fA10, fA11, fA12, fA13⟩ := BA1_4.out.four
    go_wp2_with fail
    clear fA10 fA11 fA12 fA13
    refine (c_toN L1 P1 _ _ zs1_1 _ _ zs1_2 _ G1.out (H1.out.on B4.out)).mono ?_; rintro e y5 ⟨a1_x1, c1_x1, a2_x1, c2_x1, rfl, o', x'⟩
    have B5 := Lib.hid (B4.out.trans x')
    have BA0_5 := Lib.hid (BA0_4.out.on x')
    have BA1_5 := Lib.hid (BA1_4.out.on x')
    have Bx0_5 := Lib.hid (Bx0_4.out.on x')
    have Ox0_5 := Lib.hid (Ox0_4.out.on x')
    have Ox1_5 := Lib.hid (o'.wide (lo' := y4.heap.size + 1) (hi' := y5.heap.size) (by first | omega | (simp; done) | (simp; omega)) (Nat.le_refl _)); clear o'
    have SZ5 := Lib.hid (show y4.heap.size + 1 ≤ y5.heap.size from Nat.le_trans (by first | omega | (simp; done) | (simp; omega)) x'.size); clear x'
    replace B5 := Lib.hid (B5.out.stepA (.cells #[.int .i64 L1, .int .i64 P1, .slice a1_x1 zs1_1.length c1_x1, .slice a2_x1 zs1_2.length c2_x1] 27))
    replace BA0_5 := Lib.hid (BA0_5.out.past (.cells #[.int .i64 L1, .int .i64 P1, .slice a1_x1 zs1_1.length c1_x1, .slice a2_x1 zs1_2.length c2_x1] 27))
    replace BA1_5 := Lib.hid (BA1_5.out.past (.cells #[.int .i64 L1, .int .i64 P1, .slice a1_x1 zs1_1.length c1_x1, .slice a2_x1 zs1_2.length c2_x1] 27))
    replace Bx0_5 := Lib.hid (Bx0_5.out.past (.cells #[.int .i64 L1, .int .i64 P1, .slice a1_x1 zs1_1.length c1_x1, .slice a2_x1 zs1_2.length c2_x1] 27))
    replace Ox0_5 := Lib.hid (Ox0_5.out.on (Ext.alloc y5 (.cells #[.int .i64 L1, .int .i64 P1, .slice a1_x1 zs1_1.length c1_x1, .slice a2_x1 zs1_2.length c2_x1] 27)))
    replace Ox1_5 := Lib.hid (Ox1_5.out.on (Ext.alloc y5 (.cells #[.int .i64 L1, .int .i64 P1, .slice a1_x1 zs1_1.length c1_x1, .slice a2_x1 zs1_2.length c2_x1] 27)))
    have Bx1_5 := Lib.hid (Box.alloc y5 #[.int .i64 L1, .int .i64 P1, .slice a1_x1 zs1_1.length c1_x1, .slice a2_x1 zs1_2.length c2_x1] 27)
    obtain ⟨fx00, fx01, fx02, fx03⟩ := Bx0_5.out.four
    obtain ⟨fx10, fx11, fx12, fx13⟩ := Bx1_5.out.four
    go_wp2_with fail
    clear fx00 fx01 fx02 fx03 fx10 fx11 fx12 fx13
    refine (c_impl_SameWindow L0 P0 _ _ zs0_1 _ _ zs0_2 L1 P1 _ _ zs1_1 _ _ zs1_2 _ HV.out G0.out Ox0_5.out.reads G1.out Ox1_5.out.reads).mono ?_; rintro e y6 ⟨rfl, x'⟩
    have B6 := Lib.hid (B5.out.trans x')
    have BA0_6 := Lib.hid (BA0_5.out.on x')
    have BA1_6 := Lib.hid (BA1_5.out.on x')
    have Bx0_6 := Lib.hid (Bx0_5.out.on x')
    have Bx1_6 := Lib.hid (Bx1_5.out.on x')
    have Ox0_6 := Lib.hid (Ox0_5.out.on x')
    have Ox1_6 := Lib.hid (Ox1_5.out.on x')
    have SZ6 := Lib.hid (show y5.heap.size + 1 ≤ y6.heap.size from Nat.le_trans (by first | omega | (simp; done) | (simp; omega)) x'.size); clear x'
    obtain ⟨fA00, fA01, fA02, fA03⟩ := BA0_6.out.four
    obtain ⟨fx00, fx01, fx02, fx03⟩ := Bx0_6.out.four
    go_wp2_with fail
    go_region_held3 (fun w' => w'.cell? ⟨w.heap.size, 0, none⟩ = some (.int .i64 L0) ∧ w'.cell? ⟨w.heap.size, 1, none⟩ = some (.int .i64 P0) ∧ w'.cell? ⟨w.heap.size, 2, none⟩ = some (.slice p0_1 zs0_1.length cap0_1) ∧ w'.cell? ⟨w.heap.size, 3, none⟩ = some (.slice p0_2 zs0_2.length cap0_2) ∧ w'.cell? ⟨y4.heap.size, 0, none⟩ = some (.int .i64 L0) ∧ w'.cell? ⟨y4.heap.size, 1, none⟩ = some (.int .i64 P0) ∧ w'.cell? ⟨y4.heap.size, 2, none⟩ = some (.slice a1_x0 zs0_1.length c1_x0) ∧ w'.cell? ⟨y4.heap.size, 3, none⟩ = some (.slice a2_x0 zs0_2.length c2_x0)) (first | exact ⟨KA.1, KA.2.1, KA.2.2.1, KA.2.2.2, KX.1, KX.2.1, KX.2.2.1, KX.2.2.2⟩ | go_keep) (first | (go_at_call 15; refine (c_toN L0 P0 _ _ zs0_1 _ _ zs0_2 _ G0.out (H0.out.on B6.out.stepD)).mono ?_; rintro e y7 ⟨a1_t0, c1_t0, a2_t0, c2_t0, rfl, o', x'⟩; have B7 := Lib.hid (B6.out.stepD.trans x'); have BA0_7 := Lib.hid ((BA0_6.out.on (Ext.drew _)).on x'); have BA1_7 := Lib.hid ((BA1_6.out.on (Ext.drew _)).on x'); have Bx0_7 := Lib.hid ((Bx0_6.out.on (Ext.drew _)).on x'); have Bx1_7 := Lib.hid ((Bx1_6.out.on (Ext.drew _)).on x'); have Ox0_7 := Lib.hid ((Ox0_6.out.on (Ext.drew _)).on x'); have Ox1_7 := Lib.hid ((Ox1_6.out.on (Ext.drew _)).on x'); have Ot0_7 := Lib.hid (o'.wide (lo' := y6.heap.size) (hi' := y7.heap.size) (by first | omega | (simp; done) | (simp; omega)) (Nat.le_refl _)); have SZ7 := Lib.hid (show y6.heap.size ≤ y7.heap.size from Nat.le_trans (by first | omega | (simp; done) | (simp; omega)) x'.size); have KA := BA0_7.out.four; have KX := Bx0_7.out.four; clear o' x') | (go_at_call 17; refine (c_eqN L0 P0 _ _ _ _ zs0_1 _ _ _ _ zs0_2 _ G0.out Ox0_7.out.reads Ot0_7.out.reads).mono ?_; rintro e y8 ⟨rfl, x'⟩; have B8 := Lib.hid (B7.out.trans x'); have BA0_8 := Lib.hid (BA0_7.out.on x'); have BA1_8 := Lib.hid (BA1_7.out.on x'); have Bx0_8 := Lib.hid (Bx0_7.out.on x'); have Bx1_8 := Lib.hid (Bx1_7.out.on x'); have Ox0_8 := Lib.hid (Ox0_7.out.on x'); have Ox1_8 := Lib.hid (Ox1_7.out.on x'); have Ot0_8 := Lib.hid (Ot0_7.out.on x'); have SZ8 := Lib.hid (show y7.heap.size ≤ y8.heap.size from x'.size); clear KA KX; have KA := BA0_8.out.four; have KX := Bx0_8.out.four; clear x'))
    clear KA KX fA00 fA01 fA02 fA03 fx00 fx01 fx02 fx03
    obtain ⟨fA10, fA11, fA12, fA13⟩ := BA1_8.out.four
    obtain ⟨fx10, fx11, fx12, fx13⟩ := Bx1_8.out.four
    go_wp2_with fail
    go_region_held3 (fun w' => w'.cell? ⟨w.heap.size + 1, 0, none⟩ = some (.int .i64 L1) ∧ w'.cell? ⟨w.heap.size + 1, 1, none⟩ = some (.int .i64 P1) ∧ w'.cell? ⟨w.heap.size + 1, 2, none⟩ = some (.slice p1_1 zs1_1.length cap1_1) ∧ w'.cell? ⟨w.heap.size + 1, 3, none⟩ = some (.slice p1_2 zs1_2.length cap1_2) ∧ w'.cell? ⟨y5.heap.size, 0, none⟩ = some (.int .i64 L1) ∧ w'.cell? ⟨y5.heap.size, 1, none⟩ = some (.int .i64 P1) ∧ w'.cell? ⟨y5.heap.size, 2, none⟩ = some (.slice a1_x1 zs1_1.length c1_x1) ∧ w'.cell? ⟨y5.heap.size, 3, none⟩ = some (.slice a2_x1 zs1_2.length c2_x1)) (first | exact ⟨KA.1, KA.2.1, KA.2.2.1, KA.2.2.2, KX.1, KX.2.1, KX.2.2.1, KX.2.2.2⟩ | go_keep) (first | (go_at_call 15; refine (c_toN L1 P1 _ _ zs1_1 _ _ zs1_2 _ G1.out (H1.out.on B8.out.stepD)).mono ?_; rintro e y9 ⟨a1_t1, c1_t1, a2_t1, c2_t1, rfl, o', x'⟩; have B9 := Lib.hid (B8.out.stepD.trans x'); have BA0_9 := Lib.hid ((BA0_8.out.on (Ext.drew _)).on x'); have BA1_9 := Lib.hid ((BA1_8.out.on (Ext.drew _)).on x'); have Bx0_9 := Lib.hid ((Bx0_8.out.on (Ext.drew _)).on x'); have Bx1_9 := Lib.hid ((Bx1_8.out.on (Ext.drew _)).on x'); have Ox0_9 := Lib.hid ((Ox0_8.out.on (Ext.drew _)).on x'); have Ox1_9 := Lib.hid ((Ox1_8.out.on (Ext.drew _)).on x'); have Ot0_9 := Lib.hid ((Ot0_8.out.on (Ext.drew _)).on x'); have Ot1_9 := Lib.hid (o'.wide (lo' := y8.heap.size) (hi' := y9.heap.size) (by first | omega | (simp; done) | (simp; omega)) (Nat.le_refl _)); have SZ9 := Lib.hid (show y8.heap.size ≤ y9.heap.size from Nat.le_trans (by first | omega | (simp; done) | (simp; omega)) x'.size); have KA := BA1_9.out.four; have KX := Bx1_9.out.four; clear o' x') | (go_at_call 17; refine (c_eqN L1 P1 _ _ _ _ zs1_1 _ _ _ _ zs1_2 _ G1.out Ox1_9.out.reads Ot1_9.out.reads).mono ?_; rintro e y10 ⟨rfl, x'⟩; have B10 := Lib.hid (B9.out.trans x'); have BA0_10 := Lib.hid (BA0_9.out.on x'); have BA1_10 := Lib.hid (BA1_9.out.on x'); have Bx0_10 := Lib.hid (Bx0_9.out.on x'); have Bx1_10 := Lib.hid (Bx1_9.out.on x'); have Ox0_10 := Lib.hid (Ox0_9.out.on x'); have Ox1_10 := Lib.hid (Ox1_9.out.on x'); have Ot0_10 := Lib.hid (Ot0_9.out.on x'); have Ot1_10 := Lib.hid (Ot1_9.out.on x'); have SZ10 := Lib.hid (show y9.heap.size ≤ y10.heap.size from x'.size); clear KA KX; have KA := BA1_10.out.four; have KX := Bx1_10.out.four; clear x'))
    clear KA KX fA10 fA11 fA12 fA13 fx10 fx11 fx12 fx13
    go_wp2
    go_ret
    exact ⟨rfl, B10.out⟩
end Go.Proofs.Ytmlnnnagbkknhaa
