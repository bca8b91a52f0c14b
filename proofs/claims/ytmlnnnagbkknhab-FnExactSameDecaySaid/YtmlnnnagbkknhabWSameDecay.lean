/- The walk of the law FnExactSameDecay. -/
import Derived.Test.YtmlnnnagbkknhabDca
import Derived.Test.YtmlnnnagbkknhabAgf
import Derived.Deep.RegionHeld3
import Derived.Deep.DeepCutAuto
import Derived.Deep.LoopGhost
import Derived.WalkLawsBesides
namespace Go.Proofs.Ytmlnnnagbkknhab
open Go.ChangeShapes Go.WideShapes Go.ChangeAt Go.RowKit Go.Proofs.Ytmlnnnagbkknhab.Flo
set_option linter.unusedVariables false
set_option maxHeartbeats 2000000 in
theorem walk_FnExactSameDecay (a0 a1 : Nat) (a2 : Int) (c0 c1 : Nat) (c2 : Int) (w : World) (w0 : (Lit.float .f32 a0).wf = true) (w1 : (Lit.float .f32 a1).wf = true) (w2 : (Lit.int .i64 a2).wf = true) (w3 : (Lit.float .f32 c0).wf = true) (w4 : (Lit.float .f32 c1).wf = true) (w5 : (Lit.int .i64 c2).wf = true) :
    Calls Try.prog 4 #[.agg #[.float .f32 a0, .float .f32 a1, .int .i64 a2], .agg #[.float .f32 c0, .float .f32 c1, .int .i64 c2]] w fun e w' => e = .returned (.bool true) ∧ Below w.heap.size w w' := by
  have W0 := Lib.hid (show a0 < 4294967296 from lt_of_wf w0)
  have W1 := Lib.hid (show a1 < 4294967296 from lt_of_wf w1)
  have W3 := Lib.hid (show c0 < 4294967296 from lt_of_wf w3)
  have W4 := Lib.hid (show c1 < 4294967296 from lt_of_wf w4)
  obtain ⟨r, hr⟩ : ∃ r, sameDB a0 a1 a2 c0 c1 c2 = r := ⟨_, rfl⟩
  have HR := Lib.hid hr
  have BA := Lib.hid ((Box.alloc w #[.float .f32 a0, .float .f32 a1, .int .i64 a2] 24).past (.cells #[.float .f32 c0, .float .f32 c1, .int .i64 c2] 24))
  have BB := Lib.hid (Box.alloc_at (w.alloc (.cells #[.float .f32 a0, .float .f32 a1, .int .i64 a2] 24)) #[.float .f32 c0, .float .f32 c1, .int .i64 c2] 24 (b := w.heap.size + 1) (by simp))
  have X0 := Lib.hid (((Ext.refl w).stepA (.cells #[.float .f32 a0, .float .f32 a1, .int .i64 a2] 24)).stepA (.cells #[.float .f32 c0, .float .f32 c1, .int .i64 c2] 24))
  have hrr : (r != r) = false := by simp
  have hr2 : (r == r) = true := by simp
  clear hr w0 w1 w2 w3 w4 w5
  go_enter Try.func4, Try.ntmps4
  go_upto_region 1 with fail
  obtain ⟨u, hu⟩ : ∃ u, (w.alloc (.cells #[.float .f32 a0, .float .f32 a1, .int .i64 a2] 24)).alloc (.cells #[.float .f32 c0, .float .f32 c1, .int .i64 c2] 24) = u := ⟨_, rfl⟩
  rw [hu] at BA BB X0
  rw [hu]
  clear hu
  obtain ⟨p0, p1, p2⟩ := BA.out.three
  obtain ⟨q0, q1, q2⟩ := BB.out.three
  first | (go_region_held3 (fun w' => w'.cell? ⟨w.heap.size, 0, none⟩ = some (.float .f32 a0) ∧ w'.cell? ⟨w.heap.size, 1, none⟩ = some (.float .f32 a1) ∧ w'.cell? ⟨w.heap.size, 2, none⟩ = some (.int .i64 a2) ∧ w'.cell? ⟨w.heap.size + 1, 0, none⟩ = some (.float .f32 c0) ∧ w'.cell? ⟨w.heap.size + 1, 1, none⟩ = some (.float .f32 c1) ∧ w'.cell? ⟨w.heap.size + 1, 2, none⟩ = some (.int .i64 c2)) (first | exact KA | go_keep) (first | (go_at_call_of 16 (Value.agg #[.float .f32 a0, .float .f32 a1, .int .i64 a2]); refine (c_toD a0 a1 a2 _).mono ?_; rintro e v1 ⟨rfl, x1⟩; have EAv : Ext u v1 := Ext.trans (by (repeat (first | assumption | exact Ext.refl _ | (with_reducible refine Ext.stepS ?_ (by first | exact Nat.le_refl _ | (simp; done) | (simp; omega)) _) | (with_reducible refine Ext.stepN ?_ _) | (with_reducible refine Ext.stepD ?_) | (with_reducible refine Ext.stepA ?_ _)))) x1; have K1 := (BA.out.on EAv).three; have K2 := (BB.out.on EAv).three; have KA := And.intro K1.1 (And.intro K1.2.1 (And.intro K1.2.2 K2)); clear x1 K1 K2) | (go_at_call_of 16 (Value.agg #[.float .f32 c0, .float .f32 c1, .int .i64 c2]); refine (c_toD c0 c1 c2 _).mono ?_; rintro e v2 ⟨rfl, x1⟩; have EBv : Ext u v2 := Ext.trans (by (repeat (first | assumption | exact Ext.refl _ | (with_reducible refine Ext.stepS ?_ (by first | exact Nat.le_refl _ | (simp; done) | (simp; omega)) _) | (with_reducible refine Ext.stepN ?_ _) | (with_reducible refine Ext.stepD ?_) | (with_reducible refine Ext.stepA ?_ _)))) x1; have K1 := (BA.out.on EBv).three; have K2 := (BB.out.on EBv).three; have KA := And.intro K1.1 (And.intro K1.2.1 (And.intro K1.2.2 K2)); clear x1 K1 K2) | (go_at_call 18; refine (c_spec_SameDecay a0 a1 a2 c0 c1 c2 _ HR.out W0.out W1.out W3.out W4.out).mono ?_; rintro e v3 ⟨rfl, x1⟩; have ECv : Ext u v3 := Ext.trans (by (repeat (first | assumption | exact Ext.refl _ | (with_reducible refine Ext.stepS ?_ (by first | exact Nat.le_refl _ | (simp; done) | (simp; omega)) _) | (with_reducible refine Ext.stepN ?_ _) | (with_reducible refine Ext.stepD ?_) | (with_reducible refine Ext.stepA ?_ _)))) x1; have K1 := (BA.out.on ECv).three; have K2 := (BB.out.on ECv).three; have KA := And.intro K1.1 (And.intro K1.2.1 (And.intro K1.2.2 K2)); clear x1 K1 K2))) | fail
  all_goals
    have BA2 := Lib.hid (BA.out.on ECv)
    have BB2 := Lib.hid (BB.out.on ECv)
    have X2 := Lib.hid (X0.out.trans ECv)
    clear p0 p1 p2 q0 q1 q2 EAv EBv ECv KA
    go_upto_region 2 with fail
    obtain ⟨p0, p1, p2⟩ := BA2.out.three
    obtain ⟨q0, q1, q2⟩ := BB2.out.three
    first | (go_region_held3 (fun w' => w'.cell? ⟨w.heap.size, 0, none⟩ = some (.float .f32 a0) ∧ w'.cell? ⟨w.heap.size, 1, none⟩ = some (.float .f32 a1) ∧ w'.cell? ⟨w.heap.size, 2, none⟩ = some (.int .i64 a2) ∧ w'.cell? ⟨w.heap.size + 1, 0, none⟩ = some (.float .f32 c0) ∧ w'.cell? ⟨w.heap.size + 1, 1, none⟩ = some (.float .f32 c1) ∧ w'.cell? ⟨w.heap.size + 1, 2, none⟩ = some (.int .i64 c2)) (first | exact KA | go_keep) (first | (go_at_call_of 16 (Value.agg #[.float .f32 a0, .float .f32 a1, .int .i64 a2]); refine (c_toD a0 a1 a2 _).mono ?_; rintro e y1 ⟨rfl, x1⟩; have EAy : Ext v3 y1 := Ext.trans (by (repeat (first | assumption | exact Ext.refl _ | (with_reducible refine Ext.stepS ?_ (by first | exact Nat.le_refl _ | (simp; done) | (simp; omega)) _) | (with_reducible refine Ext.stepN ?_ _) | (with_reducible refine Ext.stepD ?_) | (with_reducible refine Ext.stepA ?_ _)))) x1; have K1 := (BA2.out.on EAy).three; have K2 := (BB2.out.on EAy).three; have KA := And.intro K1.1 (And.intro K1.2.1 (And.intro K1.2.2 K2)); clear x1 K1 K2) | (go_at_call_of 16 (Value.agg #[.float .f32 c0, .float .f32 c1, .int .i64 c2]); refine (c_toD c0 c1 c2 _).mono ?_; rintro e y2 ⟨rfl, x1⟩; have EBy : Ext v3 y2 := Ext.trans (by (repeat (first | assumption | exact Ext.refl _ | (with_reducible refine Ext.stepS ?_ (by first | exact Nat.le_refl _ | (simp; done) | (simp; omega)) _) | (with_reducible refine Ext.stepN ?_ _) | (with_reducible refine Ext.stepD ?_) | (with_reducible refine Ext.stepA ?_ _)))) x1; have K1 := (BA2.out.on EBy).three; have K2 := (BB2.out.on EBy).three; have KA := And.intro K1.1 (And.intro K1.2.1 (And.intro K1.2.2 K2)); clear x1 K1 K2) | (go_at_call 19; refine (c_impl_SameDecay a0 a1 a2 c0 c1 c2 _ HR.out W0.out W1.out W3.out W4.out).mono ?_; rintro e y3 ⟨rfl, x1⟩; have ECy : Ext v3 y3 := Ext.trans (by (repeat (first | assumption | exact Ext.refl _ | (with_reducible refine Ext.stepS ?_ (by first | exact Nat.le_refl _ | (simp; done) | (simp; omega)) _) | (with_reducible refine Ext.stepN ?_ _) | (with_reducible refine Ext.stepD ?_) | (with_reducible refine Ext.stepA ?_ _)))) x1; have K1 := (BA2.out.on ECy).three; have K2 := (BB2.out.on ECy).three; have KA := And.intro K1.1 (And.intro K1.2.1 (And.intro K1.2.2 K2)); clear x1 K1 K2))) | fail
    all_goals
      have X4 := Lib.hid (X2.out.trans ECy)
      clear EAy EBy ECy KA
      go_wp2
      go_ret
      exact ⟨rfl, X4.out⟩
end Go.Proofs.Ytmlnnnagbkknhab
