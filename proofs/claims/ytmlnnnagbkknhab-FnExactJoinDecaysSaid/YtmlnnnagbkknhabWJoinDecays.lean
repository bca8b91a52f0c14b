/- The walk of the law FnExactJoinDecays. -/
import Derived.Test.YtmlnnnagbkknhabDce
import Derived.Test.YtmlnnnagbkknhabAgf
import Derived.Deep.RegionHeld3
import Derived.Deep.DeepCutAuto
import Derived.Deep.LoopGhost
import Derived.WalkLawsBesides
import Derived.Lib.SmallJoins
namespace Go.Proofs.Ytmlnnnagbkknhab
open Go.ChangeShapes Go.WideShapes Go.ChangeAt Go.RowKit Go.Proofs.Ytmlnnnagbkknhab.Flo
set_option linter.unusedVariables false
attribute [local go_sem] run_store_float
theorem Box.putD {w : World} {b : Nat} {t : TypeId} {vs : Array Value} (h : Box w b t vs) (i : Nat) (v : Value) : Box (w.setCell ⟨b, i, none⟩ v) b t (vs.setIfInBounds i v) := Go.Joins.block_setCell h v
set_option maxRecDepth 100000 in
set_option maxHeartbeats 8000000 in
theorem walk_FnExactJoinDecays (a0 a1 : Nat) (a2 : Int) (c0 c1 : Nat) (c2 : Int) (w : World) (w0 : (Lit.float .f32 a0).wf = true) (w1 : (Lit.float .f32 a1).wf = true) (w2 : (Lit.int .i64 a2).wf = true) (w3 : (Lit.float .f32 c0).wf = true) (w4 : (Lit.float .f32 c1).wf = true) (w5 : (Lit.int .i64 c2).wf = true) :
    Calls Try.prog 7 #[.agg #[.float .f32 a0, .float .f32 a1, .int .i64 a2], .agg #[.float .f32 c0, .float .f32 c1, .int .i64 c2]] w fun e w' => e = .returned (.bool true) ∧ Below w.heap.size w w' := by
  obtain ⟨r0, r1, r2, b, f1, f2, cs, ci⟩ := join_both a0 a1 a2 c0 c1 c2 (show a0 < 4294967296 from lt_of_wf w0) (show a1 < 4294967296 from lt_of_wf w1) (show c0 < 4294967296 from lt_of_wf w3) (show c1 < 4294967296 from lt_of_wf w4)
  have CS := Lib.hid cs
  have CI := Lib.hid ci
  have F1 := Lib.hid f1
  have F2 := Lib.hid f2
  have BA := Lib.hid ((Box.alloc w #[.float .f32 a0, .float .f32 a1, .int .i64 a2] 24).past (.cells #[.float .f32 c0, .float .f32 c1, .int .i64 c2] 24))
  have BB := Lib.hid (Box.alloc_at (w.alloc (.cells #[.float .f32 a0, .float .f32 a1, .int .i64 a2] 24)) #[.float .f32 c0, .float .f32 c1, .int .i64 c2] 24 (b := w.heap.size + 1) (by simp))
  have X0 := Lib.hid (((Ext.refl w).stepA (.cells #[.float .f32 a0, .float .f32 a1, .int .i64 a2] 24)).stepA (.cells #[.float .f32 c0, .float .f32 c1, .int .i64 c2] 24))
  have hbb : (b != b) = false := by simp
  have hb2 : (b == b) = true := by simp
  clear w0 w1 w2 w3 w4 w5 cs ci f1 f2
  go_enter Try.func7, Try.ntmps7
  go_upto_region 1 with fail
  obtain ⟨u, hu⟩ : ∃ u, (w.alloc (.cells #[.float .f32 a0, .float .f32 a1, .int .i64 a2] 24)).alloc (.cells #[.float .f32 c0, .float .f32 c1, .int .i64 c2] 24) = u := ⟨_, rfl⟩
  rw [hu] at BA BB X0
  rw [hu]
  clear hu
  obtain ⟨p0, p1, p2⟩ := BA.out.three
  obtain ⟨q0, q1, q2⟩ := BB.out.three
  have sz : w.heap.size + 1 < u.heap.size := BB.out.lt
  have nA0 : w.heap.size ≠ u.heap.size := by omega
  have nB0 : u.heap.size ≠ w.heap.size := by omega
  have nA1 : w.heap.size + 1 ≠ u.heap.size := by omega
  have nB1 : u.heap.size ≠ w.heap.size + 1 := by omega
  go_cut [5, 6] (fun sa sb wx => ∃ nb, sa = .pointer (some ⟨nb, 0, none⟩) ∧ sb = .bool b ∧ Box wx nb 26 #[.float .f32 r0, .float .f32 r1, .int .i64 r2] ∧ u.heap.size ≤ nb ∧ Ext u wx)
  case first =>
    first | (go_region_held3 (fun w' => w'.cell? ⟨w.heap.size, 0, none⟩ = some (.float .f32 a0) ∧ w'.cell? ⟨w.heap.size, 1, none⟩ = some (.float .f32 a1) ∧ w'.cell? ⟨w.heap.size, 2, none⟩ = some (.int .i64 a2) ∧ w'.cell? ⟨w.heap.size + 1, 0, none⟩ = some (.float .f32 c0) ∧ w'.cell? ⟨w.heap.size + 1, 1, none⟩ = some (.float .f32 c1) ∧ w'.cell? ⟨w.heap.size + 1, 2, none⟩ = some (.int .i64 c2)) (first | exact KA | go_keep) (first | (go_at_call_of 16 (Value.agg #[.float .f32 a0, .float .f32 a1, .int .i64 a2]); refine (c_toD a0 a1 a2 _).mono ?_; rintro e v0 ⟨rfl, x'⟩; have EA : Ext u v0 := Ext.trans (by (repeat (first | assumption | exact Ext.refl _ | (with_reducible refine Ext.stepS ?_ (by first | exact Nat.le_refl _ | (simp; done) | (simp; omega)) _) | (with_reducible refine Ext.stepN ?_ _) | (with_reducible refine Ext.stepD ?_) | (with_reducible refine Ext.stepA ?_ _)))) x'; have ESv0 := EA.size; have K0 := (BA.out.on EA).three; have K1 := (BB.out.on EA).three; have KA := And.intro K0.1 (And.intro K0.2.1 (And.intro K0.2.2 K1)); (first | (revert NB; intro NB; have NB2 := Lib.hid (NB.out.on (Ext.trans (by (repeat (first | assumption | exact Ext.refl _ | (with_reducible refine Ext.stepS ?_ (by first | exact Nat.le_refl _ | (simp; done) | (simp; omega)) _) | (with_reducible refine Ext.stepN ?_ _) | (with_reducible refine Ext.stepD ?_) | (with_reducible refine Ext.stepA ?_ _)))) x')); clear NB; have NB := NB2; clear NB2) | (have QX := x'; change Ext (World.alloc u (.cells #[.float .f32 0, .float .f32 0, .int .i64 0] 26)) _ at QX; have NB := Lib.hid (Box.on (Box.alloc u _ _) QX); clear QX) | (have QX := x'; change Ext (World.drew (World.alloc u (.cells #[.float .f32 0, .float .f32 0, .int .i64 0] 26))) _ at QX; have NB := Lib.hid (Box.on (Box.alloc u _ _) (Ext.trans (Ext.drew _) QX)); clear QX) | skip); (try (revert NB; intro NB; have LBv0 := NB.out.lt)); have mv00 : w.heap.size ≠ v0.heap.size := (by have := EA.size; omega); have lv00 : v0.heap.size ≠ w.heap.size := (by have := EA.size; omega); have mv01 : w.heap.size + 1 ≠ v0.heap.size := (by have := EA.size; omega); have lv01 : v0.heap.size ≠ w.heap.size + 1 := (by have := EA.size; omega); clear K0 K1 x') | (go_at_call_of 16 (Value.agg #[.float .f32 c0, .float .f32 c1, .int .i64 c2]); refine (c_toD c0 c1 c2 _).mono ?_; rintro e v1 ⟨rfl, x'⟩; have EA : Ext u v1 := Ext.trans (by (repeat (first | assumption | exact Ext.refl _ | (with_reducible refine Ext.stepS ?_ (by first | exact Nat.le_refl _ | (simp; done) | (simp; omega)) _) | (with_reducible refine Ext.stepN ?_ _) | (with_reducible refine Ext.stepD ?_) | (with_reducible refine Ext.stepA ?_ _)))) x'; have ESv1 := EA.size; have K0 := (BA.out.on EA).three; have K1 := (BB.out.on EA).three; have KA := And.intro K0.1 (And.intro K0.2.1 (And.intro K0.2.2 K1)); (first | (revert NB; intro NB; have NB2 := Lib.hid (NB.out.on (Ext.trans (by (repeat (first | assumption | exact Ext.refl _ | (with_reducible refine Ext.stepS ?_ (by first | exact Nat.le_refl _ | (simp; done) | (simp; omega)) _) | (with_reducible refine Ext.stepN ?_ _) | (with_reducible refine Ext.stepD ?_) | (with_reducible refine Ext.stepA ?_ _)))) x')); clear NB; have NB := NB2; clear NB2) | (have QX := x'; change Ext (World.alloc v0 (.cells #[.float .f32 0, .float .f32 0, .int .i64 0] 26)) _ at QX; have NB := Lib.hid (Box.on (Box.alloc v0 _ _) QX); clear QX) | (have QX := x'; change Ext (World.drew (World.alloc v0 (.cells #[.float .f32 0, .float .f32 0, .int .i64 0] 26))) _ at QX; have NB := Lib.hid (Box.on (Box.alloc v0 _ _) (Ext.trans (Ext.drew _) QX)); clear QX) | skip); (try (revert NB; intro NB; have LBv1 := NB.out.lt)); have mv10 : w.heap.size ≠ v1.heap.size := (by have := EA.size; omega); have lv10 : v1.heap.size ≠ w.heap.size := (by have := EA.size; omega); have mv11 : w.heap.size + 1 ≠ v1.heap.size := (by have := EA.size; omega); have lv11 : v1.heap.size ≠ w.heap.size + 1 := (by have := EA.size; omega); clear K0 K1 x') | (go_at_call 26; refine (CS.out _).mono ?_; rintro e vf ⟨rfl, x'⟩; have EA : Ext u vf := Ext.trans (by (repeat (first | assumption | exact Ext.refl _ | (with_reducible refine Ext.stepS ?_ (by first | exact Nat.le_refl _ | (simp; done) | (simp; omega)) _) | (with_reducible refine Ext.stepN ?_ _) | (with_reducible refine Ext.stepD ?_) | (with_reducible refine Ext.stepA ?_ _)))) x'; have ESvf := EA.size; have K0 := (BA.out.on EA).three; have K1 := (BB.out.on EA).three; have KA := And.intro K0.1 (And.intro K0.2.1 (And.intro K0.2.2 K1)); (first | (revert NB; intro NB; have NB2 := Lib.hid (NB.out.on (Ext.trans (by (repeat (first | assumption | exact Ext.refl _ | (with_reducible refine Ext.stepS ?_ (by first | exact Nat.le_refl _ | (simp; done) | (simp; omega)) _) | (with_reducible refine Ext.stepN ?_ _) | (with_reducible refine Ext.stepD ?_) | (with_reducible refine Ext.stepA ?_ _)))) x')); clear NB; have NB := NB2; clear NB2) | (have QX := x'; change Ext (World.alloc v1 (.cells #[.float .f32 0, .float .f32 0, .int .i64 0] 26)) _ at QX; have NB := Lib.hid (Box.on (Box.alloc v1 _ _) QX); clear QX) | (have QX := x'; change Ext (World.drew (World.alloc v1 (.cells #[.float .f32 0, .float .f32 0, .int .i64 0] 26))) _ at QX; have NB := Lib.hid (Box.on (Box.alloc v1 _ _) (Ext.trans (Ext.drew _) QX)); clear QX) | skip); (try (revert NB; intro NB; have LBvf := NB.out.lt)); have mvf0 : w.heap.size ≠ vf.heap.size := (by have := EA.size; omega); have lvf0 : vf.heap.size ≠ w.heap.size := (by have := EA.size; omega); have mvf1 : w.heap.size + 1 ≠ vf.heap.size := (by have := EA.size; omega); have lvf1 : vf.heap.size ≠ w.heap.size + 1 := (by have := EA.size; omega); have EH := Lib.hid EA; (try (revert NB; intro NB; obtain ⟨z0, z1, z2⟩ := NB.out.three; obtain ⟨j0, j1, j2, j3⟩ := NB.out.free)); clear K0 K1 x'))) | fail
    all_goals
      go_wp2_with fail
      go_meet
      first
        | exact ⟨_, rfl, rfl, Box.alloc _ _ _, EH.out.size, EH.out.stepA _⟩
        | (refine ⟨_, rfl, rfl, (((NB.out.putD 0 _).putD 1 _).putD 2 _), ?_, ?_⟩ <;> first | omega | (have EH' := EH.out; (repeat (first | assumption | exact Ext.refl _ | (with_reducible refine Ext.stepS ?_ (by first | exact Nat.le_refl _ | (simp; done) | (simp; omega)) _) | (with_reducible refine Ext.stepN ?_ _) | (with_reducible refine Ext.stepD ?_) | (with_reducible refine Ext.stepA ?_ _))); done) | (simp; done) | (simp; omega))
  case rest =>
    obtain ⟨nw, rfl, rfl, hbox, hnb, x'⟩ := hcut
    obtain ⟨u2, hz⟩ : ∃ z, z = wc := ⟨_, rfl⟩; subst hz
    clear p0 p1 p2 q0 q1 q2 nA0 nB0 nA1 nB1 sz
    have X2 := Lib.hid (X0.out.trans x')
    have BA2 := Lib.hid (BA.out.on x')
    have BB2 := Lib.hid (BB.out.on x')
    have BW2 := Lib.hid hbox
    have NW := Lib.hid (show w.heap.size + 1 < nw from Nat.lt_of_lt_of_le BB.out.lt hnb)
    clear x' hbox hnb
    obtain ⟨p0, p1, p2⟩ := BA2.out.three
    obtain ⟨q0, q1, q2⟩ := BB2.out.three
    have sz : w.heap.size + 1 < u2.heap.size := BB2.out.lt
    have nA0 : w.heap.size ≠ u2.heap.size := by omega
    have nB0 : u2.heap.size ≠ w.heap.size := by omega
    have nA1 : w.heap.size + 1 ≠ u2.heap.size := by omega
    have nB1 : u2.heap.size ≠ w.heap.size + 1 := by omega
    go_upto_region 2 with fail
    go_cut [7, 8] (fun sa sb wx => ∃ nb, sa = .pointer (some ⟨nb, 0, none⟩) ∧ sb = .bool b ∧ Box wx nb 26 #[.float .f32 r0, .float .f32 r1, .int .i64 r2] ∧ u2.heap.size ≤ nb ∧ Ext u2 wx)
    case first =>
      first | (go_region_held3 (fun w' => w'.cell? ⟨w.heap.size, 0, none⟩ = some (.float .f32 a0) ∧ w'.cell? ⟨w.heap.size, 1, none⟩ = some (.float .f32 a1) ∧ w'.cell? ⟨w.heap.size, 2, none⟩ = some (.int .i64 a2) ∧ w'.cell? ⟨w.heap.size + 1, 0, none⟩ = some (.float .f32 c0) ∧ w'.cell? ⟨w.heap.size + 1, 1, none⟩ = some (.float .f32 c1) ∧ w'.cell? ⟨w.heap.size + 1, 2, none⟩ = some (.int .i64 c2)) (first | exact KA | go_keep) (first | (go_at_call_of 16 (Value.agg #[.float .f32 a0, .float .f32 a1, .int .i64 a2]); refine (c_toD a0 a1 a2 _).mono ?_; rintro e y0 ⟨rfl, x'⟩; have EA : Ext u2 y0 := Ext.trans (by (repeat (first | assumption | exact Ext.refl _ | (with_reducible refine Ext.stepS ?_ (by first | exact Nat.le_refl _ | (simp; done) | (simp; omega)) _) | (with_reducible refine Ext.stepN ?_ _) | (with_reducible refine Ext.stepD ?_) | (with_reducible refine Ext.stepA ?_ _)))) x'; have ESy0 := EA.size; have K0 := (BA2.out.on EA).three; have K1 := (BB2.out.on EA).three; have KA := And.intro K0.1 (And.intro K0.2.1 (And.intro K0.2.2 K1)); (first | (revert NB; intro NB; have NB2 := Lib.hid (NB.out.on (Ext.trans (by (repeat (first | assumption | exact Ext.refl _ | (with_reducible refine Ext.stepS ?_ (by first | exact Nat.le_refl _ | (simp; done) | (simp; omega)) _) | (with_reducible refine Ext.stepN ?_ _) | (with_reducible refine Ext.stepD ?_) | (with_reducible refine Ext.stepA ?_ _)))) x')); clear NB; have NB := NB2; clear NB2) | (have QX := x'; change Ext (World.alloc u2 (.cells #[.float .f32 0, .float .f32 0, .int .i64 0] 26)) _ at QX; have NB := Lib.hid (Box.on (Box.alloc u2 _ _) QX); clear QX) | (have QX := x'; change Ext (World.drew (World.alloc u2 (.cells #[.float .f32 0, .float .f32 0, .int .i64 0] 26))) _ at QX; have NB := Lib.hid (Box.on (Box.alloc u2 _ _) (Ext.trans (Ext.drew _) QX)); clear QX) | skip); (try (revert NB; intro NB; have LBy0 := NB.out.lt)); have my00 : w.heap.size ≠ y0.heap.size := (by have := EA.size; omega); have ly00 : y0.heap.size ≠ w.heap.size := (by have := EA.size; omega); have my01 : w.heap.size + 1 ≠ y0.heap.size := (by have := EA.size; omega); have ly01 : y0.heap.size ≠ w.heap.size + 1 := (by have := EA.size; omega); clear K0 K1 x') | (go_at_call_of 16 (Value.agg #[.float .f32 c0, .float .f32 c1, .int .i64 c2]); refine (c_toD c0 c1 c2 _).mono ?_; rintro e y1 ⟨rfl, x'⟩; have EA : Ext u2 y1 := Ext.trans (by (repeat (first | assumption | exact Ext.refl _ | (with_reducible refine Ext.stepS ?_ (by first | exact Nat.le_refl _ | (simp; done) | (simp; omega)) _) | (with_reducible refine Ext.stepN ?_ _) | (with_reducible refine Ext.stepD ?_) | (with_reducible refine Ext.stepA ?_ _)))) x'; have ESy1 := EA.size; have K0 := (BA2.out.on EA).three; have K1 := (BB2.out.on EA).three; have KA := And.intro K0.1 (And.intro K0.2.1 (And.intro K0.2.2 K1)); (first | (revert NB; intro NB; have NB2 := Lib.hid (NB.out.on (Ext.trans (by (repeat (first | assumption | exact Ext.refl _ | (with_reducible refine Ext.stepS ?_ (by first | exact Nat.le_refl _ | (simp; done) | (simp; omega)) _) | (with_reducible refine Ext.stepN ?_ _) | (with_reducible refine Ext.stepD ?_) | (with_reducible refine Ext.stepA ?_ _)))) x')); clear NB; have NB := NB2; clear NB2) | (have QX := x'; change Ext (World.alloc y0 (.cells #[.float .f32 0, .float .f32 0, .int .i64 0] 26)) _ at QX; have NB := Lib.hid (Box.on (Box.alloc y0 _ _) QX); clear QX) | (have QX := x'; change Ext (World.drew (World.alloc y0 (.cells #[.float .f32 0, .float .f32 0, .int .i64 0] 26))) _ at QX; have NB := Lib.hid (Box.on (Box.alloc y0 _ _) (Ext.trans (Ext.drew _) QX)); clear QX) | skip); (try (revert NB; intro NB; have LBy1 := NB.out.lt)); have my10 : w.heap.size ≠ y1.heap.size := (by have := EA.size; omega); have ly10 : y1.heap.size ≠ w.heap.size := (by have := EA.size; omega); have my11 : w.heap.size + 1 ≠ y1.heap.size := (by have := EA.size; omega); have ly11 : y1.heap.size ≠ w.heap.size + 1 := (by have := EA.size; omega); clear K0 K1 x') | (go_at_call 27; refine (CI.out _).mono ?_; rintro e yf ⟨rfl, x'⟩; have EA : Ext u2 yf := Ext.trans (by (repeat (first | assumption | exact Ext.refl _ | (with_reducible refine Ext.stepS ?_ (by first | exact Nat.le_refl _ | (simp; done) | (simp; omega)) _) | (with_reducible refine Ext.stepN ?_ _) | (with_reducible refine Ext.stepD ?_) | (with_reducible refine Ext.stepA ?_ _)))) x'; have ESyf := EA.size; have K0 := (BA2.out.on EA).three; have K1 := (BB2.out.on EA).three; have KA := And.intro K0.1 (And.intro K0.2.1 (And.intro K0.2.2 K1)); (first | (revert NB; intro NB; have NB2 := Lib.hid (NB.out.on (Ext.trans (by (repeat (first | assumption | exact Ext.refl _ | (with_reducible refine Ext.stepS ?_ (by first | exact Nat.le_refl _ | (simp; done) | (simp; omega)) _) | (with_reducible refine Ext.stepN ?_ _) | (with_reducible refine Ext.stepD ?_) | (with_reducible refine Ext.stepA ?_ _)))) x')); clear NB; have NB := NB2; clear NB2) | (have QX := x'; change Ext (World.alloc y1 (.cells #[.float .f32 0, .float .f32 0, .int .i64 0] 26)) _ at QX; have NB := Lib.hid (Box.on (Box.alloc y1 _ _) QX); clear QX) | (have QX := x'; change Ext (World.drew (World.alloc y1 (.cells #[.float .f32 0, .float .f32 0, .int .i64 0] 26))) _ at QX; have NB := Lib.hid (Box.on (Box.alloc y1 _ _) (Ext.trans (Ext.drew _) QX)); clear QX) | skip); (try (revert NB; intro NB; have LByf := NB.out.lt)); have myf0 : w.heap.size ≠ yf.heap.size := (by have := EA.size; omega); have lyf0 : yf.heap.size ≠ w.heap.size := (by have := EA.size; omega); have myf1 : w.heap.size + 1 ≠ yf.heap.size := (by have := EA.size; omega); have lyf1 : yf.heap.size ≠ w.heap.size + 1 := (by have := EA.size; omega); have EH := Lib.hid EA; (try (revert NB; intro NB; obtain ⟨z0, z1, z2⟩ := NB.out.three; obtain ⟨j0, j1, j2, j3⟩ := NB.out.free)); clear K0 K1 x'))) | fail
      all_goals
        go_wp2_with fail
        go_meet
        first
          | exact ⟨_, rfl, rfl, Box.alloc _ _ _, EH.out.size, EH.out.stepA _⟩
          | (refine ⟨_, rfl, rfl, (((NB.out.putD 0 _).putD 1 _).putD 2 _), ?_, ?_⟩ <;> first | omega | (have EH' := EH.out; (repeat (first | assumption | exact Ext.refl _ | (with_reducible refine Ext.stepS ?_ (by first | exact Nat.le_refl _ | (simp; done) | (simp; omega)) _) | (with_reducible refine Ext.stepN ?_ _) | (with_reducible refine Ext.stepD ?_) | (with_reducible refine Ext.stepA ?_ _))); done) | (simp; done) | (simp; omega))
    case rest =>
      obtain ⟨ng, rfl, rfl, hbox, hnb, x'⟩ := hcut
      obtain ⟨u4, hz⟩ : ∃ z, z = wc := ⟨_, rfl⟩; subst hz
      have X4 := Lib.hid (X2.out.trans x')
      have BW4 := Lib.hid (BW2.out.on x')
      have BG4 := Lib.hid hbox
      clear x' hbox hnb p0 p1 p2 q0 q1 q2 nA0 nB0 nA1 nB1 sz
      obtain ⟨g0, g1, g2⟩ := BG4.out.three
      obtain ⟨k0, k1, k2⟩ := BW4.out.three
      go_wp2_with fail
      clear g0 g1 g2 k0 k1 k2
      refine (c_eqD r0 r1 r2 _ F1.out F2.out).mono ?_; rintro e u7 ⟨rfl, x7⟩
      go_wp2
      go_ret
      exact ⟨rfl, X4.out.trans x7⟩
end Go.Proofs.Ytmlnnnagbkknhab
