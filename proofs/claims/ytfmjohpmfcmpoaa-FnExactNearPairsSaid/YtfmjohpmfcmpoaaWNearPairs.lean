/- The walk of the law FnExactNearPairs. -/
import Derived.Test.YtfmjohpmfcmpoaaNps
import Derived.Test.YtfmjohpmfcmpoaaSsg
import Derived.Test.YtfmjohpmfcmpoaaSso
import Derived.Test.YtfmjohpmfcmpoaaIls
import Derived.Deep.RegionHeld3
import Derived.Deep.DeepCutAuto
import Derived.Deep.LoopGhost
import Derived.WalkLawsBesides
namespace Go.Proofs.Ytfmjohpmfcmpoaa
open Go.ChangeShapes Go.WideShapes Go.ChangeAt Go.RowKit
set_option linter.unusedVariables false
open Go.Proofs.Ytfmjohpmfcmpoaa.Flo
set_option maxHeartbeats 8000000 in
theorem walk_FnExactNearPairs (p0 : Option Addr) (len0 cap0 : Nat) (hd0 : Nat → Hd) (zs0 : List (List Nat)) (a1 : Nat) (w : World) (w0 : IsS flos w p0 len0 hd0 zs0) (v0 : BitsS zs0) (w1 : (Lit.float .f32 a1).wf = true) :
    Calls Try.prog 4 #[.slice p0 len0 cap0, .float .f32 a1] w fun e w' => e = .returned (.bool true) ∧ Below w.heap.size w w' := by
  obtain ⟨h0, m0, mr0⟩ := w0
  have hl0 := h0.len
  subst hl0
  have H0 := Lib.hid h0; have M0 := Lib.hid m0; have MR0 := Lib.hid mr0
  clear h0 m0 mr0
  have V0 := Lib.hid v0; clear v0
  have W1 := Lib.hid (lt_of_wf w1); clear w1
  have B0 := Lib.hid (show Ext w w from Ext.refl w)
  by_cases g0 : 1048576 < zs0.length + totS zs0 zs0.length
  · go_enter Try.func4, Try.ntmps4
    go_wp2_with fail
    refine (c_szSG_no _ _ _ 1048576 _ zs0 _ g0 (by decide) M0.out MR0.out H0.out).mono ?_; rintro e u1 ⟨rfl, x'⟩
    have X := B0.out.trans x'
    clear x'
    go_wp2
    go_ret
    exact ⟨rfl, X⟩
  have G0 := Lib.hid (show zs0.length + totS zs0 zs0.length ≤ 1048576 by omega)
  clear g0
  obtain ⟨rz0, rb1, hR⟩ : ∃ rz0 rb1, nearR zs0 a1 = ((rz0 : List Int), (rb1 : Bool)) := ⟨_, _, rfl⟩
  have RL0 := Lib.hid (show rz0.length ≤ 1048576 from nearR_le hR)
  have HV := Lib.hid hR
  clear hR
  go_enter Try.func4, Try.ntmps4
  have hnn0 : (0 : Int) ≤ ((1048576 - (zs0.length + totS zs0 zs0.length) : Nat) : Int) := by omega
  obtain ⟨left0, hleft0⟩ : ∃ l : Nat, 1048576 - (zs0.length + totS zs0 zs0.length) = l := ⟨_, rfl⟩; rw [hleft0] at hnn0; have HLF0 := Lib.hid hleft0; clear hleft0
  go_wp2_with fail
  refine (c_szSG_ok _ _ _ 1048576 _ zs0 _ G0.out (by decide) (H0.out.on B0.out)).mono ?_; rw [HLF0.out]; rintro e u1 ⟨rfl, x'⟩
  have B1 := Lib.hid (B0.out.trans x')
  have SZ1 := Lib.hid (show w.heap.size ≤ u1.heap.size from Nat.le_trans (by first | omega | (simp; done) | (simp; omega)) x'.size); clear x'
  go_wp2_with fail
  refine (c_toSG _ _ _ hd0 zs0 _ G0.out (H0.out.on B1.out)).mono ?_; rintro e u2 ⟨a1_s0, c1_s0, k1_s0, rfl, o', x'⟩
  have B2 := Lib.hid (B1.out.trans x')
  have Os0_2 := Lib.hid (o'.wide (lo' := u1.heap.size) (hi' := u2.heap.size) (by first | omega | (simp; done) | (simp; omega)) (Nat.le_refl _)); clear o'
  have SZ2 := Lib.hid (show u1.heap.size ≤ u2.heap.size from Nat.le_trans (by first | omega | (simp; done) | (simp; omega)) x'.size); clear x'
  go_wp2_with fail
  refine (c_spec_NearPairs _ _ _ _ zs0 a1 _ HV.out G0.out Os0_2.out.reads V0.out W1.out).mono ?_; rintro e u3 ⟨a1_w0, c1_w0, rfl, o0', x'⟩
  have B3 := Lib.hid (B2.out.trans x')
  have Os0_3 := Lib.hid (Os0_2.out.on x')
  have Ow0_3 := Lib.hid (o0'.wide (lo' := u2.heap.size) (hi' := u3.heap.size) (by first | omega | (simp; done) | (simp; omega)) (Nat.le_refl _)); clear o0'
  have SZ3 := Lib.hid (show u2.heap.size ≤ u3.heap.size from Nat.le_trans (by first | omega | (simp; done) | (simp; omega)) x'.size); clear x'
  go_wp2_with fail
  refine (c_toSG _ _ _ hd0 zs0 _ G0.out (H0.out.on B3.out)).mono ?_; rintro e u4 ⟨a1_x0, c1_x0, k1_x0, rfl, o', x'⟩
  have B4 := Lib.hid (B3.out.trans x')
  have Os0_4 := Lib.hid (Os0_3.out.on x')
  have Ow0_4 := Lib.hid (Ow0_3.out.on x')
  have Ox0_4 := Lib.hid (o'.wide (lo' := u3.heap.size) (hi' := u4.heap.size) (by first | omega | (simp; done) | (simp; omega)) (Nat.le_refl _)); clear o'
  have SZ4 := Lib.hid (show u3.heap.size ≤ u4.heap.size from Nat.le_trans (by first | omega | (simp; done) | (simp; omega)) x'.size); clear x'
  go_wp2_with fail
  refine (c_impl_NearPairs _ _ _ _ zs0 a1 _ HV.out G0.out Ox0_4.out.reads V0.out W1.out).mono ?_; rintro e u5 ⟨a1_g0, c1_g0, rfl, o0', x'⟩
  have B5 := Lib.hid (B4.out.trans x')
  have Os0_5 := Lib.hid (Os0_4.out.on x')
  have Ow0_5 := Lib.hid (Ow0_4.out.on x')
  have Ox0_5 := Lib.hid (Ox0_4.out.on x')
  have Og0_5 := Lib.hid (o0'.wide (lo' := u4.heap.size) (hi' := u5.heap.size) (by first | omega | (simp; done) | (simp; omega)) (Nat.le_refl _)); clear o0'
  have SZ5 := Lib.hid (show u4.heap.size ≤ u5.heap.size from Nat.le_trans (by first | omega | (simp; done) | (simp; omega)) x'.size); clear x'
  go_wp2_with fail
  refine (c_eqI_E _ _ _ _ _ rz0 _ RL0.out Og0_5.out.reads Ow0_5.out.reads).mono ?_; rintro e u6 ⟨rfl, x'⟩
  have B6 := Lib.hid (B5.out.trans x')
  have Os0_6 := Lib.hid (Os0_5.out.on x')
  have Ow0_6 := Lib.hid (Ow0_5.out.on x')
  have Ox0_6 := Lib.hid (Ox0_5.out.on x')
  have Og0_6 := Lib.hid (Og0_5.out.on x')
  have SZ6 := Lib.hid (show u5.heap.size ≤ u6.heap.size from Nat.le_trans (by first | omega | (simp; done) | (simp; omega)) x'.size); clear x'
  go_wp2_with fail
  refine (c_toSG _ _ _ hd0 zs0 _ G0.out (H0.out.on B6.out)).mono ?_; rintro e u7 ⟨a1_t0, c1_t0, k1_t0, rfl, o', x'⟩
  have B7 := Lib.hid (B6.out.trans x')
  have Os0_7 := Lib.hid (Os0_6.out.on x')
  have Ow0_7 := Lib.hid (Ow0_6.out.on x')
  have Ox0_7 := Lib.hid (Ox0_6.out.on x')
  have Og0_7 := Lib.hid (Og0_6.out.on x')
  have Ot0_7 := Lib.hid (o'.wide (lo' := u6.heap.size) (hi' := u7.heap.size) (by first | omega | (simp; done) | (simp; omega)) (Nat.le_refl _)); clear o'
  have SZ7 := Lib.hid (show u6.heap.size ≤ u7.heap.size from Nat.le_trans (by first | omega | (simp; done) | (simp; omega)) x'.size); clear x'
  go_wp2_with fail
  refine (c_eqSG_E _ _ _ _ _ _ _ zs0 _ G0.out Ox0_7.out.reads Ot0_7.out.reads).mono ?_; rintro e u8 ⟨rfl, x'⟩
  have B8 := Lib.hid (B7.out.trans x')
  have Os0_8 := Lib.hid (Os0_7.out.on x')
  have Ow0_8 := Lib.hid (Ow0_7.out.on x')
  have Ox0_8 := Lib.hid (Ox0_7.out.on x')
  have Og0_8 := Lib.hid (Og0_7.out.on x')
  have Ot0_8 := Lib.hid (Ot0_7.out.on x')
  have SZ8 := Lib.hid (show u7.heap.size ≤ u8.heap.size from Nat.le_trans (by first | omega | (simp; done) | (simp; omega)) x'.size); clear x'
  obtain ⟨kk1, hkk⟩ : ∃ k : Nat, 1 + totS zs0 zs0.length = k := ⟨_, rfl⟩; have HKK1 := Lib.hid hkk; have hpos1 : (0 : Int) ≤ (kk1 : Int) := by omega
  clear hkk
  go_wp2_with fail
  refine (c_markSG (u3.heap.size) (u4.heap.size) _ _ _ 1 _ zs0 _ G0.out (by decide) Ox0_8.out (by have := SZ1.out; have := SZ2.out; have := SZ3.out; have := SZ4.out; have := SZ5.out; have := SZ6.out; have := SZ7.out; have := SZ8.out; omega)).mono ?_; rintro e u9 ⟨he, o', t'⟩; rw [HKK1.out] at he; subst he
  have B9 := Lib.hid (Touch.ext B8.out t' (by have := SZ1.out; have := SZ2.out; have := SZ3.out; have := SZ4.out; have := SZ5.out; have := SZ6.out; have := SZ7.out; have := SZ8.out; omega))
  have Os0_9 := Lib.hid (Os0_8.out.beside t' (by have := SZ1.out; have := SZ2.out; have := SZ3.out; have := SZ4.out; have := SZ5.out; have := SZ6.out; have := SZ7.out; have := SZ8.out; omega))
  have Ow0_9 := Lib.hid (Ow0_8.out.beside t' (by have := SZ1.out; have := SZ2.out; have := SZ3.out; have := SZ4.out; have := SZ5.out; have := SZ6.out; have := SZ7.out; have := SZ8.out; omega))
  have Og0_9 := Lib.hid (Og0_8.out.beside t' (by have := SZ1.out; have := SZ2.out; have := SZ3.out; have := SZ4.out; have := SZ5.out; have := SZ6.out; have := SZ7.out; have := SZ8.out; omega))
  have Ot0_9 := Lib.hid (Ot0_8.out.beside t' (by have := SZ1.out; have := SZ2.out; have := SZ3.out; have := SZ4.out; have := SZ5.out; have := SZ6.out; have := SZ7.out; have := SZ8.out; omega))
  have Ox0_9 := Lib.hid o'
  have SZ9 := Lib.hid (show u8.heap.size ≤ u9.heap.size from Nat.le_trans (by first | omega | (simp; done) | (simp; omega)) t'.size); clear o' t'
  go_wp2_with fail
  refine (c_eqI_E _ _ _ _ _ rz0 _ RL0.out Og0_9.out.reads Ow0_9.out.reads).mono ?_; rintro e u10 ⟨rfl, x'⟩
  have B10 := Lib.hid (B9.out.trans x')
  have Os0_10 := Lib.hid (Os0_9.out.on x')
  have Ow0_10 := Lib.hid (Ow0_9.out.on x')
  have Ox0_10 := Lib.hid (Ox0_9.out.on x')
  have Og0_10 := Lib.hid (Og0_9.out.on x')
  have Ot0_10 := Lib.hid (Ot0_9.out.on x')
  have SZ10 := Lib.hid (show u9.heap.size ≤ u10.heap.size from Nat.le_trans (by first | omega | (simp; done) | (simp; omega)) x'.size); clear x'
  obtain ⟨kk2, hkk⟩ : ∃ k : Nat, 1 + rz0.length = k := ⟨_, rfl⟩; have HKK2 := Lib.hid hkk; have hpos2 : (0 : Int) ≤ (kk2 : Int) := by omega
  clear hkk
  go_wp2_with fail
  refine (c_markI (u4.heap.size) (u5.heap.size) _ _ _ 1 _ _ RL0.out (by decide) Og0_10.out).mono ?_; rintro e u11 ⟨he, o', t'⟩; rw [HKK2.out] at he; subst he
  have B11 := Lib.hid (Touch.ext B10.out t' (by have := SZ1.out; have := SZ2.out; have := SZ3.out; have := SZ4.out; have := SZ5.out; have := SZ6.out; have := SZ7.out; have := SZ8.out; have := SZ9.out; have := SZ10.out; omega))
  have Os0_11 := Lib.hid (Os0_10.out.beside t' (by have := SZ1.out; have := SZ2.out; have := SZ3.out; have := SZ4.out; have := SZ5.out; have := SZ6.out; have := SZ7.out; have := SZ8.out; have := SZ9.out; have := SZ10.out; omega))
  have Ow0_11 := Lib.hid (Ow0_10.out.beside t' (by have := SZ1.out; have := SZ2.out; have := SZ3.out; have := SZ4.out; have := SZ5.out; have := SZ6.out; have := SZ7.out; have := SZ8.out; have := SZ9.out; have := SZ10.out; omega))
  have Ox0_11 := Lib.hid (Ox0_10.out.beside t' (by have := SZ1.out; have := SZ2.out; have := SZ3.out; have := SZ4.out; have := SZ5.out; have := SZ6.out; have := SZ7.out; have := SZ8.out; have := SZ9.out; have := SZ10.out; omega))
  have Ot0_11 := Lib.hid (Ot0_10.out.beside t' (by have := SZ1.out; have := SZ2.out; have := SZ3.out; have := SZ4.out; have := SZ5.out; have := SZ6.out; have := SZ7.out; have := SZ8.out; have := SZ9.out; have := SZ10.out; omega))
  have Og0_11 := Lib.hid o'
  have SZ11 := Lib.hid (show u10.heap.size ≤ u11.heap.size from Nat.le_trans (by first | omega | (simp; done) | (simp; omega)) t'.size); clear o' t'
  go_wp2_with fail
  refine (c_heldI_E _ _ _ 1 _ RL0.out (by decide) Og0_11.out.reads).mono ?_; rintro e u12 ⟨he, x'⟩; rw [HKK2.out] at he; subst he
  have B12 := Lib.hid (B11.out.trans x')
  have Os0_12 := Lib.hid (Os0_11.out.on x')
  have Ow0_12 := Lib.hid (Ow0_11.out.on x')
  have Ox0_12 := Lib.hid (Ox0_11.out.on x')
  have Og0_12 := Lib.hid (Og0_11.out.on x')
  have Ot0_12 := Lib.hid (Ot0_11.out.on x')
  have SZ12 := Lib.hid (show u11.heap.size ≤ u12.heap.size from Nat.le_trans (by first | omega | (simp; done) | (simp; omega)) x'.size); clear x'
  go_wp2_with fail
  refine (c_toSG _ _ _ hd0 zs0 _ G0.out (H0.out.on B12.out)).mono ?_; rintro e u13 ⟨a1_y0, c1_y0, k1_y0, rfl, o', x'⟩
  have B13 := Lib.hid (B12.out.trans x')
  have Os0_13 := Lib.hid (Os0_12.out.on x')
  have Ow0_13 := Lib.hid (Ow0_12.out.on x')
  have Ox0_13 := Lib.hid (Ox0_12.out.on x')
  have Og0_13 := Lib.hid (Og0_12.out.on x')
  have Ot0_13 := Lib.hid (Ot0_12.out.on x')
  have Oy0_13 := Lib.hid (o'.wide (lo' := u12.heap.size) (hi' := u13.heap.size) (by first | omega | (simp; done) | (simp; omega)) (Nat.le_refl _)); clear o'
  have SZ13 := Lib.hid (show u12.heap.size ≤ u13.heap.size from Nat.le_trans (by first | omega | (simp; done) | (simp; omega)) x'.size); clear x'
  go_wp2_with fail
  refine (c_impl_NearPairs _ _ _ _ zs0 a1 _ HV.out G0.out Oy0_13.out.reads V0.out W1.out).mono ?_; rintro e u14 ⟨a1_h0, c1_h0, rfl, o0', x'⟩
  have B14 := Lib.hid (B13.out.trans x')
  have Os0_14 := Lib.hid (Os0_13.out.on x')
  have Ow0_14 := Lib.hid (Ow0_13.out.on x')
  have Ox0_14 := Lib.hid (Ox0_13.out.on x')
  have Og0_14 := Lib.hid (Og0_13.out.on x')
  have Ot0_14 := Lib.hid (Ot0_13.out.on x')
  have Oy0_14 := Lib.hid (Oy0_13.out.on x')
  have Oh0_14 := Lib.hid (o0'.wide (lo' := u13.heap.size) (hi' := u14.heap.size) (by first | omega | (simp; done) | (simp; omega)) (Nat.le_refl _)); clear o0'
  have SZ14 := Lib.hid (show u13.heap.size ≤ u14.heap.size from Nat.le_trans (by first | omega | (simp; done) | (simp; omega)) x'.size); clear x'
  go_wp2_with fail
  refine (c_eqI_E _ _ _ _ _ rz0 _ RL0.out Oh0_14.out.reads Ow0_14.out.reads).mono ?_; rintro e u15 ⟨rfl, x'⟩
  have B15 := Lib.hid (B14.out.trans x')
  have Os0_15 := Lib.hid (Os0_14.out.on x')
  have Ow0_15 := Lib.hid (Ow0_14.out.on x')
  have Ox0_15 := Lib.hid (Ox0_14.out.on x')
  have Og0_15 := Lib.hid (Og0_14.out.on x')
  have Ot0_15 := Lib.hid (Ot0_14.out.on x')
  have Oy0_15 := Lib.hid (Oy0_14.out.on x')
  have Oh0_15 := Lib.hid (Oh0_14.out.on x')
  have SZ15 := Lib.hid (show u14.heap.size ≤ u15.heap.size from Nat.le_trans (by first | omega | (simp; done) | (simp; omega)) x'.size); clear x'
  go_wp2_with fail
  refine (c_heldI_E _ _ _ 1 _ RL0.out (by decide) Og0_15.out.reads).mono ?_; rintro e u16 ⟨he, x'⟩; rw [HKK2.out] at he; subst he
  have B16 := Lib.hid (B15.out.trans x')
  have Os0_16 := Lib.hid (Os0_15.out.on x')
  have Ow0_16 := Lib.hid (Ow0_15.out.on x')
  have Ox0_16 := Lib.hid (Ox0_15.out.on x')
  have Og0_16 := Lib.hid (Og0_15.out.on x')
  have Ot0_16 := Lib.hid (Ot0_15.out.on x')
  have Oy0_16 := Lib.hid (Oy0_15.out.on x')
  have Oh0_16 := Lib.hid (Oh0_15.out.on x')
  have SZ16 := Lib.hid (show u15.heap.size ≤ u16.heap.size from Nat.le_trans (by first | omega | (simp; done) | (simp; omega)) x'.size); clear x'
  go_wp2
  go_ret
  exact ⟨rfl, B16.out⟩
end Go.Proofs.Ytfmjohpmfcmpoaa
