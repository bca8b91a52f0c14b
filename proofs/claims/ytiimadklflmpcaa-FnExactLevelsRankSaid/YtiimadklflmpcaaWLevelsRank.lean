/- The walk of the law FnExactLevelsRank. -/
import Derived.Test.YtiimadklflmpcaaLrl
import Derived.Deep.RegionHeld3
import Derived.Deep.DeepCutAuto
import Derived.Deep.LoopGhost
import Derived.WalkLawsBesides
namespace Go.Proofs.Ytiimadklflmpcaa
open Go.ChangeShapes Go.WideShapes Go.ChangeAt Go.RowKit
set_option linter.unusedVariables false
open Go.Proofs.Ytiimadklflmpcaa.Flo
set_option maxHeartbeats 8000000 in
theorem walk_FnExactLevelsRank (R0 S0 : Int) (p : Option Addr) (len cap : Nat) (hd : Nat → Hd) (zs : List (List Nat)) (a1 : Nat) (w : World) (w0_0 : (Lit.int .i64 R0).wf = true) (w0_1 : (Lit.int .i64 S0).wf = true) (wS : IsS flos w p len hd zs) (vS : BitsS zs) (w1 : (Lit.float .f32 a1).wf = true) :
    Calls Try.prog 8 #[.agg #[.int .i64 R0, .int .i64 S0, .slice p len cap], .float .f32 a1] w fun e w' => e = .returned (.bool true) ∧ Below w.heap.size w w' := by
  clear w0_0 w0_1
  have W1 := Lib.hid (lt_of_wf w1); clear w1
  obtain ⟨h, m, mr⟩ := wS
  have hl := h.len
  subst hl
  have H := Lib.hid h; have M := Lib.hid m; have MR := Lib.hid mr; have V := Lib.hid vS
  clear h m mr vS
  have BA0_0 := Lib.hid (Box.alloc_at w #[.int .i64 R0, .int .i64 S0, .slice p zs.length cap] 46 (b := w.heap.size) (by first | omega | (simp; done) | (simp; omega)))
  have B0 := Lib.hid (show Ext w (w.alloc (.cells #[.int .i64 R0, .int .i64 S0, .slice p zs.length cap] 46)) from by (repeat (first | assumption | exact Ext.refl _ | (with_reducible refine Ext.stepS ?_ (by first | exact Nat.le_refl _ | (simp; done) | (simp; omega)) _) | (with_reducible refine Ext.stepN ?_ _) | (with_reducible refine Ext.stepD ?_) | (with_reducible refine Ext.stepA ?_ _))))
  by_cases g0 : 1048576 < zs.length + totS zs zs.length
  · go_enter Try.func8, Try.ntmps8
    go_wp2_with fail
    refine (c_szV_no R0 S0 _ _ _ 1048576 _ zs _ g0 (by decide) M.out MR.out (H.out.on B0.out)).mono ?_; rintro e u1 ⟨rfl, x'⟩
    have X := B0.out.trans x'
    clear x'
    go_wp2
    go_ret
    exact ⟨rfl, X⟩
  have G0 := Lib.hid (show zs.length + totS zs zs.length ≤ 1048576 by omega)
  clear g0
  obtain ⟨rz0, rb0, hR⟩ : ∃ rz0 rb0, lrV R0 S0 zs a1 = ((rz0, rb0) : Int × Bool) := ⟨_, _, rfl⟩
  have HV := Lib.hid hR
  clear hR
  go_enter Try.func8, Try.ntmps8
  have hnn0 : (0 : Int) ≤ ((1048576 - (zs.length + totS zs zs.length) : Nat) : Int) := by omega
  obtain ⟨left0, hleft0⟩ : ∃ l : Nat, 1048576 - (zs.length + totS zs zs.length) = l := ⟨_, rfl⟩; rw [hleft0] at hnn0; have HLF0 := Lib.hid hleft0; clear hleft0
  go_wp2_with fail
  refine (c_szV_ok R0 S0 _ _ _ 1048576 _ zs _ G0.out (by decide) (H.out.on B0.out)).mono ?_; rw [HLF0.out]; rintro e u1 ⟨rfl, x'⟩
  have B1 := Lib.hid (B0.out.trans x')
  have BA0_1 := Lib.hid (BA0_0.out.on x')
  have SZ1 := Lib.hid (show w.heap.size + 1 ≤ u1.heap.size from Nat.le_trans (by first | omega | (simp; done) | (simp; omega)) x'.size); clear x'
  obtain ⟨fA00, fA01, fA02⟩ := BA0_1.out.three
  go_wp2_with fail
  clear fA00 fA01 fA02
  refine (c_toV R0 S0 _ _ _ _ zs _ G0.out (H.out.on B1.out)).mono ?_; rintro e u2 ⟨a_s0, c_s0, hs_s0, rfl, o', x'⟩
  have B2 := Lib.hid (B1.out.trans x')
  have BA0_2 := Lib.hid (BA0_1.out.on x')
  have Os0_2 := Lib.hid (o'.wide (lo' := u1.heap.size) (hi' := u2.heap.size) (by first | omega | (simp; done) | (simp; omega)) (Nat.le_refl _)); clear o'
  have SZ2 := Lib.hid (show u1.heap.size ≤ u2.heap.size from Nat.le_trans (by first | omega | (simp; done) | (simp; omega)) x'.size); clear x'
  go_wp2_with fail
  refine (c_spec_LevelsRank R0 S0 _ _ _ _ zs a1 _ HV.out G0.out V.out W1.out Os0_2.out.reads).mono ?_; rintro e u3 ⟨rfl, x'⟩
  have B3 := Lib.hid (B2.out.trans x')
  have BA0_3 := Lib.hid (BA0_2.out.on x')
  have Os0_3 := Lib.hid (Os0_2.out.on x')
  have SZ3 := Lib.hid (show u2.heap.size ≤ u3.heap.size from Nat.le_trans (by first | omega | (simp; done) | (simp; omega)) x'.size); clear x'
  obtain ⟨fA00, fA01, fA02⟩ := BA0_3.out.three
  go_wp2_with fail
  clear fA00 fA01 fA02
  refine (c_toV R0 S0 _ _ _ _ zs _ G0.out (H.out.on B3.out)).mono ?_; rintro e u4 ⟨a_x0, c_x0, hs_x0, rfl, o', x'⟩
  have B4 := Lib.hid (B3.out.trans x')
  have BA0_4 := Lib.hid (BA0_3.out.on x')
  have Ox0_4 := Lib.hid (o'.wide (lo' := u3.heap.size) (hi' := u4.heap.size) (by first | omega | (simp; done) | (simp; omega)) (Nat.le_refl _)); clear o'
  have SZ4 := Lib.hid (show u3.heap.size ≤ u4.heap.size from Nat.le_trans (by first | omega | (simp; done) | (simp; omega)) x'.size); clear x'
  replace B4 := Lib.hid (B4.out.stepA (.cells #[.int .i64 R0, .int .i64 S0, .slice a_x0 zs.length c_x0] 49))
  replace BA0_4 := Lib.hid (BA0_4.out.past (.cells #[.int .i64 R0, .int .i64 S0, .slice a_x0 zs.length c_x0] 49))
  replace Ox0_4 := Lib.hid (Ox0_4.out.on (Ext.alloc u4 (.cells #[.int .i64 R0, .int .i64 S0, .slice a_x0 zs.length c_x0] 49)))
  have Bx0_4 := Lib.hid (Box.alloc u4 #[.int .i64 R0, .int .i64 S0, .slice a_x0 zs.length c_x0] 49)
  obtain ⟨fx00, fx01, fx02⟩ := Bx0_4.out.three
  go_wp2_with fail
  clear fx00 fx01 fx02
  refine (c_impl_LevelsRank R0 S0 _ _ _ _ zs a1 _ HV.out G0.out V.out W1.out Ox0_4.out.reads).mono ?_; rintro e u5 ⟨rfl, x'⟩
  have B5 := Lib.hid (B4.out.trans x')
  have BA0_5 := Lib.hid (BA0_4.out.on x')
  have Bx0_5 := Lib.hid (Bx0_4.out.on x')
  have Ox0_5 := Lib.hid (Ox0_4.out.on x')
  have SZ5 := Lib.hid (show u4.heap.size + 1 ≤ u5.heap.size from Nat.le_trans (by first | omega | (simp; done) | (simp; omega)) x'.size); clear x'
  obtain ⟨fA00, fA01, fA02⟩ := BA0_5.out.three
  obtain ⟨fx00, fx01, fx02⟩ := Bx0_5.out.three
  go_wp2_with fail
  go_region_held3 (fun w' => w'.cell? ⟨w.heap.size, 0, none⟩ = some (.int .i64 R0) ∧ w'.cell? ⟨w.heap.size, 1, none⟩ = some (.int .i64 S0) ∧ w'.cell? ⟨w.heap.size, 2, none⟩ = some (.slice p zs.length cap) ∧ w'.cell? ⟨u4.heap.size, 0, none⟩ = some (.int .i64 R0) ∧ w'.cell? ⟨u4.heap.size, 1, none⟩ = some (.int .i64 S0) ∧ w'.cell? ⟨u4.heap.size, 2, none⟩ = some (.slice a_x0 zs.length c_x0)) (first | exact ⟨KA.1, KA.2.1, KA.2.2, KX.1, KX.2.1, KX.2.2⟩ | go_keep) (first | (go_at_call 38; refine (c_toV R0 S0 _ _ _ _ zs _ G0.out (H.out.on B5.out.stepD)).mono ?_; rintro e u6 ⟨a_t0, c_t0, hs_t0, rfl, o', x'⟩; have B6 := Lib.hid (B5.out.stepD.trans x'); have BA0_6 := Lib.hid ((BA0_5.out.on (Ext.drew _)).on x'); have Bx0_6 := Lib.hid ((Bx0_5.out.on (Ext.drew _)).on x'); have Ox0_6 := Lib.hid ((Ox0_5.out.on (Ext.drew _)).on x'); have Ot0_6 := Lib.hid (o'.wide (lo' := u5.heap.size) (hi' := u6.heap.size) (by first | omega | (simp; done) | (simp; omega)) (Nat.le_refl _)); have SZ6 := Lib.hid (show u5.heap.size ≤ u6.heap.size from Nat.le_trans (by first | omega | (simp; done) | (simp; omega)) x'.size); have KA := BA0_6.out.three; have KX := Bx0_6.out.three; clear o' x') | (go_at_call 40; refine (c_eqV_E R0 S0 _ _ _ _ _ _ _ zs _ G0.out Ox0_6.out.reads Ot0_6.out.reads).mono ?_; rintro e u7 ⟨rfl, x'⟩; have B7 := Lib.hid (B6.out.trans x'); have BA0_7 := Lib.hid (BA0_6.out.on x'); have Bx0_7 := Lib.hid (Bx0_6.out.on x'); clear KA KX; have KA := BA0_7.out.three; have KX := Bx0_7.out.three; clear x'))
  clear KA KX fA00 fA01 fA02 fx00 fx01 fx02
  go_wp2
  go_ret
  exact ⟨rfl, B7.out⟩
end Go.Proofs.Ytiimadklflmpcaa
