/- The walk of the law FnExactExactCounts. -/
import Derived.Test.YtfmjohpmfcmpoabExc
import Derived.Deep.RegionHeld3
import Derived.Deep.DeepCutAuto
import Derived.Deep.LoopGhost
import Derived.WalkLawsBesides
namespace Go.Proofs.Ytfmjohpmfcmpoab
open Go.ChangeShapes Go.WideShapes Go.ChangeAt Go.RowKit
set_option linter.unusedVariables false
theorem Own.tight {t : TypeId} {w : World} {lo hi n c : Nat} {a : Option Addr} {vs : List Value} (h : Own t w lo hi a n c vs) (hl : lo ≤ hi) : ∃ l r, lo ≤ l ∧ r ≤ hi ∧ l ≤ r ∧ Own t w l r a n c vs ∧ ((a = none ∧ l = r) ∨ ∃ g, a = some ⟨g, 0, none⟩ ∧ l = g ∧ r = g + 1) := by
  rcases h.2.2 with ⟨h1, h2⟩ | ⟨g, f, h1, h2, h3, h4, h5⟩
  · exact ⟨lo, lo, Nat.le_refl _, hl, Nat.le_refl _, ⟨h.1, h.2.1, .inl ⟨h1, h2⟩⟩, .inl ⟨h1, rfl⟩⟩
  · exact ⟨g, g + 1, h2, h3, Nat.le_succ _, ⟨h.1, h.2.1, .inr ⟨g, f, h1, Nat.le_refl _, Nat.lt_succ_self _, h4, h5⟩⟩, .inr ⟨g, h1, rfl, rfl⟩⟩
theorem Own.two {t : TypeId} {w : World} {lo hi n c n' c' : Nat} {a a' : Option Addr} {vs vs' : List Value} (h : Own t w lo hi a n c vs) (h' : Own t w lo hi a' n' c' vs') (ap : Apart a a') (hl : lo ≤ hi) : ∃ l0 r0 l1 r1, Own t w l0 r0 a n c vs ∧ Own t w l1 r1 a' n' c' vs' ∧ (lo ≤ l0 ∧ r0 ≤ hi ∧ lo ≤ l1 ∧ r1 ≤ hi ∧ l0 ≤ r0 ∧ l1 ≤ r1 ∧ (r0 ≤ l1 ∨ r1 ≤ l0)) := by
  obtain ⟨l0, r0, a1, a2, a3, o0, q0⟩ := h.tight hl
  obtain ⟨l1, r1, b1, b2, b3, o1, q1⟩ := h'.tight hl
  rcases q1 with ⟨e1, e2⟩ | ⟨g1, e1, e2, e3⟩
  · obtain ⟨l0', r0'⟩ := (l0, r0)
    refine ⟨l0, r0, hi, hi, o0, ⟨o1.1, o1.2.1, ?_⟩, a1, a2, hl, Nat.le_refl _, a3, Nat.le_refl _, .inl a2⟩
    rcases o1.2.2 with h0 | ⟨g, f, h1, _⟩
    · exact .inl h0
    · rw [e1] at h1; cases h1
  rcases q0 with ⟨d1, d2⟩ | ⟨g0, d1, d2, d3⟩
  · refine ⟨hi, hi, l1, r1, ⟨o0.1, o0.2.1, ?_⟩, o1, hl, Nat.le_refl _, b1, b2, Nat.le_refl _, b3, .inr b2⟩
    rcases o0.2.2 with h0 | ⟨g, f, h1, _⟩
    · exact .inl h0
    · rw [d1] at h1; cases h1
  · have hne : g0 ≠ g1 := ap _ _ d1 e1
    exact ⟨l0, r0, l1, r1, o0, o1, a1, a2, b1, b2, a3, b3, by omega⟩
set_option maxHeartbeats 8000000 in
theorem walk_FnExactExactCounts (p0 : Option Addr) (len0 cap0 : Nat) (z0 : List Int) (w : World) (w0 : IsRow .i64 w p0 len0 cap0 z0) :
    Calls Try.prog 10 #[.slice p0 len0 cap0] w fun e w' => e = .returned (.bool true) ∧ Below w.heap.size w w' := by
  obtain ⟨h0, m0⟩ := w0.rd
  obtain ⟨zs0, hz0⟩ : ∃ zs, z0.take len0 = zs := ⟨_, rfl⟩
  rw [hz0] at h0
  have hl0 := h0.int.1
  subst hl0
  have H0 := Lib.hid h0; have M0 := Lib.hid m0
  clear hz0 h0 m0 w0
  have B0 := Lib.hid (show Ext w w from Ext.refl w)
  by_cases g0 : 1048576 < zs0.length
  · go_enter Try.func10, Try.ntmps10
    have m' := M0.out
    unfold maxLen at m'
    go_wp2
    go_ret
    exact ⟨rfl, Below.refl _ _⟩
  have G0 := Lib.hid (show zs0.length ≤ 1048576 by omega)
  have gi0 : (zs0.length : Int) ≤ 1048576 := by omega
  obtain ⟨rz0, rz1, rb2, hR⟩ : ∃ rz0 rz1 rb2, exR zs0 = ((rz0 : List Int), (rz1 : List Int), (rb2 : Bool)) := ⟨_, _, _, rfl⟩
  have RL0 := Lib.hid (show rz0.length ≤ 1048576 from exR_le1 hR)
  have RL1 := Lib.hid (show rz1.length ≤ 1048576 from exR_le2 hR)
  have HV := Lib.hid hR
  clear hR
  go_enter Try.func10, Try.ntmps10
  go_wp2_with fail
  refine (c_toI _ _ _ zs0 _ G0.out (H0.out.on B0.out)).mono ?_; rintro e u1 ⟨a1_s0, c1_s0, rfl, o', x'⟩
  have B1 := Lib.hid (B0.out.trans x')
  have Os0_1 := Lib.hid (o'.wide (lo' := w.heap.size) (hi' := u1.heap.size) (by first | omega | (simp; done) | (simp; omega)) (Nat.le_refl _)); clear o'
  have SZ1 := Lib.hid (show w.heap.size ≤ u1.heap.size from Nat.le_trans (by first | omega | (simp; done) | (simp; omega)) x'.size); clear x'
  go_wp2_with fail
  refine (c_spec_ExactCounts _ _ _ zs0 _ HV.out G0.out Os0_1.out.reads).mono ?_; rintro e u2 ⟨a1_w0, c1_w0, a1_w1, c1_w1, rfl, o0', o1', ap01', x'⟩
  have APw01 := Lib.hid ap01'; clear ap01'
  have B2 := Lib.hid (B1.out.trans x')
  have Os0_2 := Lib.hid (Os0_1.out.on x')
  have Ow0_2 := Lib.hid (o0'.wide (lo' := u1.heap.size) (hi' := u2.heap.size) (by first | omega | (simp; done) | (simp; omega)) (Nat.le_refl _)); clear o0'
  have Ow1_2 := Lib.hid (o1'.wide (lo' := u1.heap.size) (hi' := u2.heap.size) (by first | omega | (simp; done) | (simp; omega)) (Nat.le_refl _)); clear o1'
  have SZ2 := Lib.hid (show u1.heap.size ≤ u2.heap.size from Nat.le_trans (by first | omega | (simp; done) | (simp; omega)) x'.size); clear x'
  go_wp2_with fail
  refine (c_toI _ _ _ zs0 _ G0.out (H0.out.on B2.out)).mono ?_; rintro e u3 ⟨a1_x0, c1_x0, rfl, o', x'⟩
  have B3 := Lib.hid (B2.out.trans x')
  have Os0_3 := Lib.hid (Os0_2.out.on x')
  have Ow0_3 := Lib.hid (Ow0_2.out.on x')
  have Ow1_3 := Lib.hid (Ow1_2.out.on x')
  have Ox0_3 := Lib.hid (o'.wide (lo' := u2.heap.size) (hi' := u3.heap.size) (by first | omega | (simp; done) | (simp; omega)) (Nat.le_refl _)); clear o'
  have SZ3 := Lib.hid (show u2.heap.size ≤ u3.heap.size from Nat.le_trans (by first | omega | (simp; done) | (simp; omega)) x'.size); clear x'
  go_wp2_with fail
  refine (c_impl_ExactCounts _ _ _ zs0 _ HV.out G0.out Ox0_3.out.reads).mono ?_; rintro e u4 ⟨a1_g0, c1_g0, a1_g1, c1_g1, rfl, o0', o1', ap01', x'⟩
  have APg01 := Lib.hid ap01'; clear ap01'
  have B4 := Lib.hid (B3.out.trans x')
  have Os0_4 := Lib.hid (Os0_3.out.on x')
  have Ow0_4 := Lib.hid (Ow0_3.out.on x')
  have Ow1_4 := Lib.hid (Ow1_3.out.on x')
  have Ox0_4 := Lib.hid (Ox0_3.out.on x')
  obtain ⟨gl0, gr0, gl1, gr1, q0', q1', hrr⟩ := Own.two (o0'.wide (lo' := u3.heap.size) (hi' := u4.heap.size) (by first | omega | (simp; done) | (simp; omega)) (Nat.le_refl _)) (o1'.wide (lo' := u3.heap.size) (hi' := u4.heap.size) (by first | omega | (simp; done) | (simp; omega)) (Nat.le_refl _)) APg01.out (Nat.le_trans (by first | omega | (simp; done) | (simp; omega)) x'.size)
  have Og0_4 := Lib.hid q0'; have Og1_4 := Lib.hid q1'; have HRR := Lib.hid hrr; clear o0' o1' q0' q1' hrr
  have SZ4 := Lib.hid (show u3.heap.size ≤ u4.heap.size from Nat.le_trans (by first | omega | (simp; done) | (simp; omega)) x'.size); clear x'
  go_wp2_with fail
  refine (c_eqI_E _ _ _ _ _ rz0 _ RL0.out Og0_4.out.reads Ow0_4.out.reads).mono ?_; rintro e u5 ⟨rfl, x'⟩
  have B5 := Lib.hid (B4.out.trans x')
  have Os0_5 := Lib.hid (Os0_4.out.on x')
  have Ow0_5 := Lib.hid (Ow0_4.out.on x')
  have Ow1_5 := Lib.hid (Ow1_4.out.on x')
  have Ox0_5 := Lib.hid (Ox0_4.out.on x')
  have Og0_5 := Lib.hid (Og0_4.out.on x')
  have Og1_5 := Lib.hid (Og1_4.out.on x')
  have SZ5 := Lib.hid (show u4.heap.size ≤ u5.heap.size from Nat.le_trans (by first | omega | (simp; done) | (simp; omega)) x'.size); clear x'
  go_wp2_with fail
  refine (c_eqI_E _ _ _ _ _ rz1 _ RL1.out Og1_5.out.reads Ow1_5.out.reads).mono ?_; rintro e u6 ⟨rfl, x'⟩
  have B6 := Lib.hid (B5.out.trans x')
  have Os0_6 := Lib.hid (Os0_5.out.on x')
  have Ow0_6 := Lib.hid (Ow0_5.out.on x')
  have Ow1_6 := Lib.hid (Ow1_5.out.on x')
  have Ox0_6 := Lib.hid (Ox0_5.out.on x')
  have Og0_6 := Lib.hid (Og0_5.out.on x')
  have Og1_6 := Lib.hid (Og1_5.out.on x')
  have SZ6 := Lib.hid (show u5.heap.size ≤ u6.heap.size from Nat.le_trans (by first | omega | (simp; done) | (simp; omega)) x'.size); clear x'
  go_wp2_with fail
  refine (c_toI _ _ _ zs0 _ G0.out (H0.out.on B6.out)).mono ?_; rintro e u7 ⟨a1_t0, c1_t0, rfl, o', x'⟩
  have B7 := Lib.hid (B6.out.trans x')
  have Os0_7 := Lib.hid (Os0_6.out.on x')
  have Ow0_7 := Lib.hid (Ow0_6.out.on x')
  have Ow1_7 := Lib.hid (Ow1_6.out.on x')
  have Ox0_7 := Lib.hid (Ox0_6.out.on x')
  have Og0_7 := Lib.hid (Og0_6.out.on x')
  have Og1_7 := Lib.hid (Og1_6.out.on x')
  have Ot0_7 := Lib.hid (o'.wide (lo' := u6.heap.size) (hi' := u7.heap.size) (by first | omega | (simp; done) | (simp; omega)) (Nat.le_refl _)); clear o'
  have SZ7 := Lib.hid (show u6.heap.size ≤ u7.heap.size from Nat.le_trans (by first | omega | (simp; done) | (simp; omega)) x'.size); clear x'
  go_wp2_with fail
  refine (c_eqI_E _ _ _ _ _ zs0 _ G0.out Ox0_7.out.reads Ot0_7.out.reads).mono ?_; rintro e u8 ⟨rfl, x'⟩
  have B8 := Lib.hid (B7.out.trans x')
  have Os0_8 := Lib.hid (Os0_7.out.on x')
  have Ow0_8 := Lib.hid (Ow0_7.out.on x')
  have Ow1_8 := Lib.hid (Ow1_7.out.on x')
  have Ox0_8 := Lib.hid (Ox0_7.out.on x')
  have Og0_8 := Lib.hid (Og0_7.out.on x')
  have Og1_8 := Lib.hid (Og1_7.out.on x')
  have Ot0_8 := Lib.hid (Ot0_7.out.on x')
  have SZ8 := Lib.hid (show u7.heap.size ≤ u8.heap.size from Nat.le_trans (by first | omega | (simp; done) | (simp; omega)) x'.size); clear x'
  obtain ⟨kk1, hkk⟩ : ∃ k : Nat, 1 + zs0.length = k := ⟨_, rfl⟩; have HKK1 := Lib.hid hkk; have hpos1 : (0 : Int) ≤ (kk1 : Int) := by omega
  clear hkk
  go_wp2_with fail
  refine (c_markI (u2.heap.size) (u3.heap.size) _ _ _ 1 _ _ G0.out (by decide) Ox0_8.out).mono ?_; rintro e u9 ⟨he, o', t'⟩; rw [HKK1.out] at he; subst he
  have B9 := Lib.hid (Touch.ext B8.out t' (by have := SZ1.out; have := SZ2.out; have := SZ3.out; have := SZ4.out; have := HRR.out; have := SZ5.out; have := SZ6.out; have := SZ7.out; have := SZ8.out; omega))
  have Os0_9 := Lib.hid (Os0_8.out.beside t' (by have := SZ1.out; have := SZ2.out; have := SZ3.out; have := SZ4.out; have := HRR.out; have := SZ5.out; have := SZ6.out; have := SZ7.out; have := SZ8.out; omega))
  have Ow0_9 := Lib.hid (Ow0_8.out.beside t' (by have := SZ1.out; have := SZ2.out; have := SZ3.out; have := SZ4.out; have := HRR.out; have := SZ5.out; have := SZ6.out; have := SZ7.out; have := SZ8.out; omega))
  have Ow1_9 := Lib.hid (Ow1_8.out.beside t' (by have := SZ1.out; have := SZ2.out; have := SZ3.out; have := SZ4.out; have := HRR.out; have := SZ5.out; have := SZ6.out; have := SZ7.out; have := SZ8.out; omega))
  have Og0_9 := Lib.hid (Og0_8.out.beside t' (by have := SZ1.out; have := SZ2.out; have := SZ3.out; have := SZ4.out; have := HRR.out; have := SZ5.out; have := SZ6.out; have := SZ7.out; have := SZ8.out; omega))
  have Og1_9 := Lib.hid (Og1_8.out.beside t' (by have := SZ1.out; have := SZ2.out; have := SZ3.out; have := SZ4.out; have := HRR.out; have := SZ5.out; have := SZ6.out; have := SZ7.out; have := SZ8.out; omega))
  have Ot0_9 := Lib.hid (Ot0_8.out.beside t' (by have := SZ1.out; have := SZ2.out; have := SZ3.out; have := SZ4.out; have := HRR.out; have := SZ5.out; have := SZ6.out; have := SZ7.out; have := SZ8.out; omega))
  have Ox0_9 := Lib.hid o'
  have SZ9 := Lib.hid (show u8.heap.size ≤ u9.heap.size from Nat.le_trans (by first | omega | (simp; done) | (simp; omega)) t'.size); clear o' t'
  go_wp2_with fail
  refine (c_eqI_E _ _ _ _ _ rz0 _ RL0.out Og0_9.out.reads Ow0_9.out.reads).mono ?_; rintro e u10 ⟨rfl, x'⟩
  have B10 := Lib.hid (B9.out.trans x')
  have Os0_10 := Lib.hid (Os0_9.out.on x')
  have Ow0_10 := Lib.hid (Ow0_9.out.on x')
  have Ow1_10 := Lib.hid (Ow1_9.out.on x')
  have Ox0_10 := Lib.hid (Ox0_9.out.on x')
  have Og0_10 := Lib.hid (Og0_9.out.on x')
  have Og1_10 := Lib.hid (Og1_9.out.on x')
  have Ot0_10 := Lib.hid (Ot0_9.out.on x')
  have SZ10 := Lib.hid (show u9.heap.size ≤ u10.heap.size from Nat.le_trans (by first | omega | (simp; done) | (simp; omega)) x'.size); clear x'
  go_wp2_with fail
  refine (c_eqI_E _ _ _ _ _ rz1 _ RL1.out Og1_10.out.reads Ow1_10.out.reads).mono ?_; rintro e u11 ⟨rfl, x'⟩
  have B11 := Lib.hid (B10.out.trans x')
  have Os0_11 := Lib.hid (Os0_10.out.on x')
  have Ow0_11 := Lib.hid (Ow0_10.out.on x')
  have Ow1_11 := Lib.hid (Ow1_10.out.on x')
  have Ox0_11 := Lib.hid (Ox0_10.out.on x')
  have Og0_11 := Lib.hid (Og0_10.out.on x')
  have Og1_11 := Lib.hid (Og1_10.out.on x')
  have Ot0_11 := Lib.hid (Ot0_10.out.on x')
  have SZ11 := Lib.hid (show u10.heap.size ≤ u11.heap.size from Nat.le_trans (by first | omega | (simp; done) | (simp; omega)) x'.size); clear x'
  obtain ⟨kk2, hkk⟩ : ∃ k : Nat, 1 + rz0.length = k := ⟨_, rfl⟩; have HKK2 := Lib.hid hkk; have hpos2 : (0 : Int) ≤ (kk2 : Int) := by omega
  clear hkk
  go_wp2_with fail
  refine (c_markI (gl0) (gr0) _ _ _ 1 _ _ RL0.out (by decide) Og0_11.out).mono ?_; rintro e u12 ⟨he, o', t'⟩; rw [HKK2.out] at he; subst he
  have B12 := Lib.hid (Touch.ext B11.out t' (by have := SZ1.out; have := SZ2.out; have := SZ3.out; have := SZ4.out; have := HRR.out; have := SZ5.out; have := SZ6.out; have := SZ7.out; have := SZ8.out; have := SZ9.out; have := SZ10.out; have := SZ11.out; omega))
  have Os0_12 := Lib.hid (Os0_11.out.beside t' (by have := SZ1.out; have := SZ2.out; have := SZ3.out; have := SZ4.out; have := HRR.out; have := SZ5.out; have := SZ6.out; have := SZ7.out; have := SZ8.out; have := SZ9.out; have := SZ10.out; have := SZ11.out; omega))
  have Ow0_12 := Lib.hid (Ow0_11.out.beside t' (by have := SZ1.out; have := SZ2.out; have := SZ3.out; have := SZ4.out; have := HRR.out; have := SZ5.out; have := SZ6.out; have := SZ7.out; have := SZ8.out; have := SZ9.out; have := SZ10.out; have := SZ11.out; omega))
  have Ow1_12 := Lib.hid (Ow1_11.out.beside t' (by have := SZ1.out; have := SZ2.out; have := SZ3.out; have := SZ4.out; have := HRR.out; have := SZ5.out; have := SZ6.out; have := SZ7.out; have := SZ8.out; have := SZ9.out; have := SZ10.out; have := SZ11.out; omega))
  have Ox0_12 := Lib.hid (Ox0_11.out.beside t' (by have := SZ1.out; have := SZ2.out; have := SZ3.out; have := SZ4.out; have := HRR.out; have := SZ5.out; have := SZ6.out; have := SZ7.out; have := SZ8.out; have := SZ9.out; have := SZ10.out; have := SZ11.out; omega))
  have Og1_12 := Lib.hid (Og1_11.out.beside t' (by have := SZ1.out; have := SZ2.out; have := SZ3.out; have := SZ4.out; have := HRR.out; have := SZ5.out; have := SZ6.out; have := SZ7.out; have := SZ8.out; have := SZ9.out; have := SZ10.out; have := SZ11.out; omega))
  have Ot0_12 := Lib.hid (Ot0_11.out.beside t' (by have := SZ1.out; have := SZ2.out; have := SZ3.out; have := SZ4.out; have := HRR.out; have := SZ5.out; have := SZ6.out; have := SZ7.out; have := SZ8.out; have := SZ9.out; have := SZ10.out; have := SZ11.out; omega))
  have Og0_12 := Lib.hid o'
  have SZ12 := Lib.hid (show u11.heap.size ≤ u12.heap.size from Nat.le_trans (by first | omega | (simp; done) | (simp; omega)) t'.size); clear o' t'
  obtain ⟨kk3, hkk⟩ : ∃ k : Nat, kk2 + rz1.length = k := ⟨_, rfl⟩; have HKK3 := Lib.hid hkk; have hpos3 : (0 : Int) ≤ (kk3 : Int) := by omega
  clear hkk
  go_wp2_with fail
  refine (c_markI (gl1) (gr1) _ _ _ kk2 _ _ RL1.out (by have := HKK2.out; have := RL0.out; omega) Og1_12.out).mono ?_; rintro e u13 ⟨he, o', t'⟩; rw [HKK3.out] at he; subst he
  have B13 := Lib.hid (Touch.ext B12.out t' (by have := SZ1.out; have := SZ2.out; have := SZ3.out; have := SZ4.out; have := HRR.out; have := SZ5.out; have := SZ6.out; have := SZ7.out; have := SZ8.out; have := SZ9.out; have := SZ10.out; have := SZ11.out; have := SZ12.out; omega))
  have Os0_13 := Lib.hid (Os0_12.out.beside t' (by have := SZ1.out; have := SZ2.out; have := SZ3.out; have := SZ4.out; have := HRR.out; have := SZ5.out; have := SZ6.out; have := SZ7.out; have := SZ8.out; have := SZ9.out; have := SZ10.out; have := SZ11.out; have := SZ12.out; omega))
  have Ow0_13 := Lib.hid (Ow0_12.out.beside t' (by have := SZ1.out; have := SZ2.out; have := SZ3.out; have := SZ4.out; have := HRR.out; have := SZ5.out; have := SZ6.out; have := SZ7.out; have := SZ8.out; have := SZ9.out; have := SZ10.out; have := SZ11.out; have := SZ12.out; omega))
  have Ow1_13 := Lib.hid (Ow1_12.out.beside t' (by have := SZ1.out; have := SZ2.out; have := SZ3.out; have := SZ4.out; have := HRR.out; have := SZ5.out; have := SZ6.out; have := SZ7.out; have := SZ8.out; have := SZ9.out; have := SZ10.out; have := SZ11.out; have := SZ12.out; omega))
  have Ox0_13 := Lib.hid (Ox0_12.out.beside t' (by have := SZ1.out; have := SZ2.out; have := SZ3.out; have := SZ4.out; have := HRR.out; have := SZ5.out; have := SZ6.out; have := SZ7.out; have := SZ8.out; have := SZ9.out; have := SZ10.out; have := SZ11.out; have := SZ12.out; omega))
  have Og0_13 := Lib.hid (Og0_12.out.beside t' (by have := SZ1.out; have := SZ2.out; have := SZ3.out; have := SZ4.out; have := HRR.out; have := SZ5.out; have := SZ6.out; have := SZ7.out; have := SZ8.out; have := SZ9.out; have := SZ10.out; have := SZ11.out; have := SZ12.out; omega))
  have Ot0_13 := Lib.hid (Ot0_12.out.beside t' (by have := SZ1.out; have := SZ2.out; have := SZ3.out; have := SZ4.out; have := HRR.out; have := SZ5.out; have := SZ6.out; have := SZ7.out; have := SZ8.out; have := SZ9.out; have := SZ10.out; have := SZ11.out; have := SZ12.out; omega))
  have Og1_13 := Lib.hid o'
  have SZ13 := Lib.hid (show u12.heap.size ≤ u13.heap.size from Nat.le_trans (by first | omega | (simp; done) | (simp; omega)) t'.size); clear o' t'
  go_wp2_with fail
  refine (c_heldI_E _ _ _ 1 _ RL0.out (by decide) Og0_13.out.reads).mono ?_; rintro e u14 ⟨he, x'⟩; rw [HKK2.out] at he; subst he
  have B14 := Lib.hid (B13.out.trans x')
  have Os0_14 := Lib.hid (Os0_13.out.on x')
  have Ow0_14 := Lib.hid (Ow0_13.out.on x')
  have Ow1_14 := Lib.hid (Ow1_13.out.on x')
  have Ox0_14 := Lib.hid (Ox0_13.out.on x')
  have Og0_14 := Lib.hid (Og0_13.out.on x')
  have Og1_14 := Lib.hid (Og1_13.out.on x')
  have Ot0_14 := Lib.hid (Ot0_13.out.on x')
  have SZ14 := Lib.hid (show u13.heap.size ≤ u14.heap.size from Nat.le_trans (by first | omega | (simp; done) | (simp; omega)) x'.size); clear x'
  go_wp2_with fail
  refine (c_heldI_E _ _ _ kk2 _ RL1.out (by have := HKK2.out; have := RL0.out; omega) Og1_14.out.reads).mono ?_; rintro e u15 ⟨he, x'⟩; rw [HKK3.out] at he; subst he
  have B15 := Lib.hid (B14.out.trans x')
  have Os0_15 := Lib.hid (Os0_14.out.on x')
  have Ow0_15 := Lib.hid (Ow0_14.out.on x')
  have Ow1_15 := Lib.hid (Ow1_14.out.on x')
  have Ox0_15 := Lib.hid (Ox0_14.out.on x')
  have Og0_15 := Lib.hid (Og0_14.out.on x')
  have Og1_15 := Lib.hid (Og1_14.out.on x')
  have Ot0_15 := Lib.hid (Ot0_14.out.on x')
  have SZ15 := Lib.hid (show u14.heap.size ≤ u15.heap.size from Nat.le_trans (by first | omega | (simp; done) | (simp; omega)) x'.size); clear x'
  go_wp2_with fail
  refine (c_toI _ _ _ zs0 _ G0.out (H0.out.on B15.out)).mono ?_; rintro e u16 ⟨a1_y0, c1_y0, rfl, o', x'⟩
  have B16 := Lib.hid (B15.out.trans x')
  have Os0_16 := Lib.hid (Os0_15.out.on x')
  have Ow0_16 := Lib.hid (Ow0_15.out.on x')
  have Ow1_16 := Lib.hid (Ow1_15.out.on x')
  have Ox0_16 := Lib.hid (Ox0_15.out.on x')
  have Og0_16 := Lib.hid (Og0_15.out.on x')
  have Og1_16 := Lib.hid (Og1_15.out.on x')
  have Ot0_16 := Lib.hid (Ot0_15.out.on x')
  have Oy0_16 := Lib.hid (o'.wide (lo' := u15.heap.size) (hi' := u16.heap.size) (by first | omega | (simp; done) | (simp; omega)) (Nat.le_refl _)); clear o'
  have SZ16 := Lib.hid (show u15.heap.size ≤ u16.heap.size from Nat.le_trans (by first | omega | (simp; done) | (simp; omega)) x'.size); clear x'
  go_wp2_with fail
  refine (c_impl_ExactCounts _ _ _ zs0 _ HV.out G0.out Oy0_16.out.reads).mono ?_; rintro e u17 ⟨a1_h0, c1_h0, a1_h1, c1_h1, rfl, o0', o1', ap01', x'⟩
  have APh01 := Lib.hid ap01'; clear ap01'
  have B17 := Lib.hid (B16.out.trans x')
  have Os0_17 := Lib.hid (Os0_16.out.on x')
  have Ow0_17 := Lib.hid (Ow0_16.out.on x')
  have Ow1_17 := Lib.hid (Ow1_16.out.on x')
  have Ox0_17 := Lib.hid (Ox0_16.out.on x')
  have Og0_17 := Lib.hid (Og0_16.out.on x')
  have Og1_17 := Lib.hid (Og1_16.out.on x')
  have Ot0_17 := Lib.hid (Ot0_16.out.on x')
  have Oy0_17 := Lib.hid (Oy0_16.out.on x')
  have Oh0_17 := Lib.hid (o0'.wide (lo' := u16.heap.size) (hi' := u17.heap.size) (by first | omega | (simp; done) | (simp; omega)) (Nat.le_refl _)); clear o0'
  have Oh1_17 := Lib.hid (o1'.wide (lo' := u16.heap.size) (hi' := u17.heap.size) (by first | omega | (simp; done) | (simp; omega)) (Nat.le_refl _)); clear o1'
  have SZ17 := Lib.hid (show u16.heap.size ≤ u17.heap.size from Nat.le_trans (by first | omega | (simp; done) | (simp; omega)) x'.size); clear x'
  go_wp2_with fail
  refine (c_eqI_E _ _ _ _ _ rz0 _ RL0.out Oh0_17.out.reads Ow0_17.out.reads).mono ?_; rintro e u18 ⟨rfl, x'⟩
  have B18 := Lib.hid (B17.out.trans x')
  have Os0_18 := Lib.hid (Os0_17.out.on x')
  have Ow0_18 := Lib.hid (Ow0_17.out.on x')
  have Ow1_18 := Lib.hid (Ow1_17.out.on x')
  have Ox0_18 := Lib.hid (Ox0_17.out.on x')
  have Og0_18 := Lib.hid (Og0_17.out.on x')
  have Og1_18 := Lib.hid (Og1_17.out.on x')
  have Ot0_18 := Lib.hid (Ot0_17.out.on x')
  have Oy0_18 := Lib.hid (Oy0_17.out.on x')
  have Oh0_18 := Lib.hid (Oh0_17.out.on x')
  have Oh1_18 := Lib.hid (Oh1_17.out.on x')
  have SZ18 := Lib.hid (show u17.heap.size ≤ u18.heap.size from Nat.le_trans (by first | omega | (simp; done) | (simp; omega)) x'.size); clear x'
  go_wp2_with fail
  refine (c_eqI_E _ _ _ _ _ rz1 _ RL1.out Oh1_18.out.reads Ow1_18.out.reads).mono ?_; rintro e u19 ⟨rfl, x'⟩
  have B19 := Lib.hid (B18.out.trans x')
  have Os0_19 := Lib.hid (Os0_18.out.on x')
  have Ow0_19 := Lib.hid (Ow0_18.out.on x')
  have Ow1_19 := Lib.hid (Ow1_18.out.on x')
  have Ox0_19 := Lib.hid (Ox0_18.out.on x')
  have Og0_19 := Lib.hid (Og0_18.out.on x')
  have Og1_19 := Lib.hid (Og1_18.out.on x')
  have Ot0_19 := Lib.hid (Ot0_18.out.on x')
  have Oy0_19 := Lib.hid (Oy0_18.out.on x')
  have Oh0_19 := Lib.hid (Oh0_18.out.on x')
  have Oh1_19 := Lib.hid (Oh1_18.out.on x')
  have SZ19 := Lib.hid (show u18.heap.size ≤ u19.heap.size from Nat.le_trans (by first | omega | (simp; done) | (simp; omega)) x'.size); clear x'
  go_wp2_with fail
  refine (c_heldI_E _ _ _ 1 _ RL0.out (by decide) Og0_19.out.reads).mono ?_; rintro e u20 ⟨he, x'⟩; rw [HKK2.out] at he; subst he
  have B20 := Lib.hid (B19.out.trans x')
  have Os0_20 := Lib.hid (Os0_19.out.on x')
  have Ow0_20 := Lib.hid (Ow0_19.out.on x')
  have Ow1_20 := Lib.hid (Ow1_19.out.on x')
  have Ox0_20 := Lib.hid (Ox0_19.out.on x')
  have Og0_20 := Lib.hid (Og0_19.out.on x')
  have Og1_20 := Lib.hid (Og1_19.out.on x')
  have Ot0_20 := Lib.hid (Ot0_19.out.on x')
  have Oy0_20 := Lib.hid (Oy0_19.out.on x')
  have Oh0_20 := Lib.hid (Oh0_19.out.on x')
  have Oh1_20 := Lib.hid (Oh1_19.out.on x')
  have SZ20 := Lib.hid (show u19.heap.size ≤ u20.heap.size from Nat.le_trans (by first | omega | (simp; done) | (simp; omega)) x'.size); clear x'
  go_wp2_with fail
  refine (c_heldI_E _ _ _ kk2 _ RL1.out (by have := HKK2.out; have := RL0.out; omega) Og1_20.out.reads).mono ?_; rintro e u21 ⟨he, x'⟩; rw [HKK3.out] at he; subst he
  have B21 := Lib.hid (B20.out.trans x')
  have Os0_21 := Lib.hid (Os0_20.out.on x')
  have Ow0_21 := Lib.hid (Ow0_20.out.on x')
  have Ow1_21 := Lib.hid (Ow1_20.out.on x')
  have Ox0_21 := Lib.hid (Ox0_20.out.on x')
  have Og0_21 := Lib.hid (Og0_20.out.on x')
  have Og1_21 := Lib.hid (Og1_20.out.on x')
  have Ot0_21 := Lib.hid (Ot0_20.out.on x')
  have Oy0_21 := Lib.hid (Oy0_20.out.on x')
  have Oh0_21 := Lib.hid (Oh0_20.out.on x')
  have Oh1_21 := Lib.hid (Oh1_20.out.on x')
  have SZ21 := Lib.hid (show u20.heap.size ≤ u21.heap.size from Nat.le_trans (by first | omega | (simp; done) | (simp; omega)) x'.size); clear x'
  go_wp2
  go_ret
  exact ⟨rfl, B21.out⟩
end Go.Proofs.Ytfmjohpmfcmpoab
