/- WindowText: both sides. -/
import Derived.Test.YtgejfeedcphfkaaDoorSvt
import Derived.Test.YtgejfeedcphfkaaDoorZtx
import Derived.Test.YtgejfeedcphfkaaDoorWna
import Derived.Deep.RegionHeld3
import Derived.Deep.QuietTactic
import Derived.BigQuiet
namespace Go.Proofs.YtgejfeedcphfkaaDoor
open Go.ChangeShapes Go.WideShapes Go.ChangeAt Go.RowKit
set_option linter.unusedVariables false
def wntR (L P : Int) (ts zs : List Int) : ByteArray × Bool := if winB L P ts zs then (lssT [[L, P], ts, zs], lssB [[L, P], ts, zs]) else (⟨#[]⟩, false)
theorem wntR_no {L P : Int} {ts zs : List Int} (h : winB L P ts zs = false) : wntR L P ts zs = (⟨#[]⟩, false) := by unfold wntR; rw [h]; rfl
theorem wntR_y {L P : Int} {ts zs : List Int} (h : winB L P ts zs = true) : wntR L P ts zs = (lssT [[L, P], ts, zs], lssB [[L, P], ts, zs]) := by unfold wntR; rw [h]; rfl
theorem win_pair {L P : Int} {ts zs : List Int} (h : winB L P ts zs = true) : listB [L, P] = true := by
  have D := (win_ok h).d
  have a1 := D.l1
  have a2 := D.l2
  have a3 := D.p1
  have a4 := D.p2
  have h1 : valB L = true := decide_eq_true (by omega)
  have h2 : valB P = true := decide_eq_true (by omega)
  unfold listB
  simp [h1, h2]
theorem joinT_three (xs ys zs : List Int) : joinT [xs, ys, zs] = ⟨((((textT xs).data.toList ++ [59]) ++ (textT ys).data.toList) ++ [59] ++ (textT zs).data.toList).toArray⟩ := by
  unfold joinT partS
  simp only [List.map_cons, List.map_nil]
  rw [Lib.join_cons]
  simp [Lib.joinTail]
theorem lssB_three (xs ys zs : List Int) (h : listB xs = true) : lssB [xs, ys, zs] = (listB ys && listB zs) := by
  unfold lssB
  simp [h]
theorem lsAt3 {w : World} {g : Nat} {t : TypeId} {l0 l1 l2 : List Int} {a0 a1 a2 : Option Addr} {c0 c1 c2 : Nat} (b : Box w g t #[.slice a0 l0.length c0, .slice a1 l1.length c1, .slice a2 l2.length c2]) (r0 : Reads w a0 l0.length (ints l0)) (m0 : l0.length ≤ maxLen) (r1 : Reads w a1 l1.length (ints l1)) (m1 : l1.length ≤ maxLen) (r2 : Reads w a2 l2.length (ints l2)) (m2 : l2.length ≤ maxLen) :
    LsAt w g 3 [l0, l1, l2] (fun i => if i = 0 then a0 else if i = 1 then a1 else a2) (fun i => if i = 0 then c0 else if i = 1 then c1 else c2) := by
  obtain ⟨q0, q1, q2⟩ := b.three
  refine ⟨rfl, fun i hi => ?_, fun i hi => ?_⟩
  · by_cases h0 : i = 0
    · subst h0; exact q0
    · by_cases h1 : i = 1
      · subst h1; exact q1
      · obtain rfl : i = 2 := by omega
        exact q2
  · by_cases h0 : i = 0
    · subst h0; exact ⟨r0, m0⟩
    · by_cases h1 : i = 1
      · subst h1; exact ⟨r1, m1⟩
      · obtain rfl : i = 2 := by omega
        exact ⟨r2, m2⟩
set_option maxHeartbeats 2000000 in
theorem c_impl_WindowText (L P : Int) (a1 : Option Addr) (cap1 : Nat) (ts : List Int) (a2 : Option Addr) (cap2 : Nat) (zs : List Int) (w : World) {rt : ByteArray} {rb : Bool} (hv : wntR L P ts zs = (rt, rb)) (hl : ts.length + zs.length ≤ 1048576) (h : Reads2 w a1 ts.length (ints ts) a2 zs.length (ints zs)) (hT : TabP w) :
    Calls Tryd.prog 23 #[.agg #[.int .i64 L, .int .i64 P, .slice a1 ts.length cap1, .slice a2 zs.length cap2]] w fun e w' => e = .returned (.tuple #[.string rt, .bool rb]) ∧ Ext w w' := by
  have H := Lib.hid h
  have HT := Lib.hid hT
  have HL := Lib.hid hl
  have BX := Lib.hid (Box.alloc w #[.int .i64 L, .int .i64 P, .slice a1 ts.length cap1, .slice a2 zs.length cap2] 45)
  clear h hT hl
  obtain ⟨b0, b1, b2, b3⟩ := BX.out.four
  cases hc : winB L P ts zs
  · rw [wntR_no hc] at hv
    cases hv
    have HC := Lib.hid hc
    clear hc
    go_enter Tryd.func23, Tryd.ntmps23
    go_wp2_with fail
    refine (c_impl_ValidWindow L P a1 cap1 ts a2 cap2 zs _ HC.out HL.out (H.out.on (by (repeat (first | assumption | exact Ext.refl _ | (with_reducible refine Ext.stepS ?_ (by first | exact Nat.le_refl _ | (simp; done) | (simp; omega)) _) | (with_reducible refine Ext.stepN ?_ _) | (with_reducible refine Ext.stepD ?_) | (with_reducible refine Ext.stepA ?_ _)))))).mono ?_; rintro e w1 ⟨rfl, x1⟩
    have X1 := Lib.hid (show Ext w w1 from Ext.trans (by (repeat (first | assumption | exact Ext.refl _ | (with_reducible refine Ext.stepS ?_ (by first | exact Nat.le_refl _ | (simp; done) | (simp; omega)) _) | (with_reducible refine Ext.stepN ?_ _) | (with_reducible refine Ext.stepD ?_) | (with_reducible refine Ext.stepA ?_ _)))) x1)
    clear x1
    go_wp2
    go_ret2
    exact ⟨rfl, X1.out⟩
  · rw [wntR_y hc] at hv
    cases hv
    have HC := Lib.hid hc
    have HP := Lib.hid (win_pair hc)
    clear hc
    obtain ⟨T, hTT⟩ : ∃ T, lssT [[L, P], ts, zs] = T := ⟨_, rfl⟩
    obtain ⟨B, hBB⟩ : ∃ B, lssB [[L, P], ts, zs] = B := ⟨_, rfl⟩
    have HTT := Lib.hid hTT
    have HBB := Lib.hid hBB
    rw [hTT, hBB]
    clear hTT hBB
    go_enter Tryd.func23, Tryd.ntmps23
    go_wp2_with fail
    refine (c_impl_ValidWindow L P a1 cap1 ts a2 cap2 zs _ HC.out HL.out (H.out.on (by (repeat (first | assumption | exact Ext.refl _ | (with_reducible refine Ext.stepS ?_ (by first | exact Nat.le_refl _ | (simp; done) | (simp; omega)) _) | (with_reducible refine Ext.stepN ?_ _) | (with_reducible refine Ext.stepD ?_) | (with_reducible refine Ext.stepA ?_ _)))))).mono ?_; rintro e w1 ⟨rfl, x1⟩
    have X1 := Lib.hid (show Ext w w1 from Ext.trans (by (repeat (first | assumption | exact Ext.refl _ | (with_reducible refine Ext.stepS ?_ (by first | exact Nat.le_refl _ | (simp; done) | (simp; omega)) _) | (with_reducible refine Ext.stepN ?_ _) | (with_reducible refine Ext.stepD ?_) | (with_reducible refine Ext.stepA ?_ _)))) x1)
    obtain ⟨d0, d1, d2, d3⟩ := (BX.out.on x1).four
    obtain ⟨g0, g1, g2, g3⟩ := ((BX.out.on x1).past (.cells #[.int .i64 L, .int .i64 P] 2)).four
    have BA := Lib.hid ((Box.alloc w1 #[.int .i64 L, .int .i64 P] 2).past (.cells #[.slice (some ⟨w1.heap.size, 0, none⟩) 2 2, .slice a1 ts.length cap1, .slice a2 zs.length cap2] 22))
    have BL := Lib.hid (Box.alloc_at (w1.alloc (.cells #[.int .i64 L, .int .i64 P] 2)) #[.slice (some ⟨w1.heap.size, 0, none⟩) 2 2, .slice a1 ts.length cap1, .slice a2 zs.length cap2] 22 (b := w1.heap.size + 1) (by simp))
    have HLS := Lib.hid (lsAt3 (l0 := [L, P]) (l1 := ts) (l2 := zs) BL.out (reads_two BA.out) (by unfold maxLen; simp) (H.out.r1.on (X1.out.trans (by (repeat (first | assumption | exact Ext.refl _ | (with_reducible refine Ext.stepS ?_ (by first | exact Nat.le_refl _ | (simp; done) | (simp; omega)) _) | (with_reducible refine Ext.stepN ?_ _) | (with_reducible refine Ext.stepD ?_) | (with_reducible refine Ext.stepA ?_ _)))))) (by have := HL.out; unfold maxLen; omega) (H.out.r2.on (X1.out.trans (by (repeat (first | assumption | exact Ext.refl _ | (with_reducible refine Ext.stepS ?_ (by first | exact Nat.le_refl _ | (simp; done) | (simp; omega)) _) | (with_reducible refine Ext.stepN ?_ _) | (with_reducible refine Ext.stepD ?_) | (with_reducible refine Ext.stepA ?_ _)))))) (by have := HL.out; unfold maxLen; omega))
    clear x1 b0 b1 b2 b3
    go_wp2_with fail
    refine (c_textOfLists (w1.heap.size + 1) 3 3 [[L, P], ts, zs] _ _ _ (by decide) (HT.out.on (X1.out.trans (by (repeat (first | assumption | exact Ext.refl _ | (with_reducible refine Ext.stepS ?_ (by first | exact Nat.le_refl _ | (simp; done) | (simp; omega)) _) | (with_reducible refine Ext.stepN ?_ _) | (with_reducible refine Ext.stepD ?_) | (with_reducible refine Ext.stepA ?_ _)))))) HLS.out).mono ?_; rintro e w2 ⟨rfl, x2⟩
    rw [HTT.out, HBB.out]
    have X2 := Lib.hid (show Ext w w2 from X1.out.trans (Ext.trans (by (repeat (first | assumption | exact Ext.refl _ | (with_reducible refine Ext.stepS ?_ (by first | exact Nat.le_refl _ | (simp; done) | (simp; omega)) _) | (with_reducible refine Ext.stepN ?_ _) | (with_reducible refine Ext.stepD ?_) | (with_reducible refine Ext.stepA ?_ _)))) x2))
    clear x2
    go_wp2
    go_ret2
    exact ⟨rfl, X2.out⟩
theorem wkeep {w u : World} {b : Nat} {t : TypeId} {x0 x1 x2 x3 : Value} (B : Box w b t #[x0, x1, x2, x3]) (E : Ext w u) : u.cell? ⟨b, 0, none⟩ = some x0 ∧ u.cell? ⟨b, 1, none⟩ = some x1 ∧ u.cell? ⟨b, 2, none⟩ = some x2 ∧ u.cell? ⟨b, 3, none⟩ = some x3 ∧ Ext w u := by
  obtain ⟨q0, q1, q2, q3⟩ := (B.on E).four
  exact ⟨q0, q1, q2, q3, E⟩
theorem lit_a (L P : Int) (w : World) (t : TypeId) : Reads (w.alloc (.cells #[.int .i64 L, .int .i64 P] t)) (some ⟨w.heap.size, 0, none⟩) 2 (ints [L, P]) := reads_two (Box.alloc w #[.int .i64 L, .int .i64 P] t)
theorem lit_d (L P : Int) (w : World) (t : TypeId) : Reads (w.alloc (.cells #[.int .i64 L, .int .i64 P] t)).drew (some ⟨w.heap.size, 0, none⟩) 2 (ints [L, P]) := reads_two ((Box.alloc w #[.int .i64 L, .int .i64 P] t).on (Ext.drew _))
set_option maxRecDepth 20000 in
set_option maxHeartbeats 8000000 in
theorem c_spec_l08Window (b : Nat) (L P : Int) (a1 : Option Addr) (n1 cap1 : Nat) (ts : List Int) (a2 : Option Addr) (n2 cap2 : Nat) (zs : List Int) (w : World) {T : ByteArray} (hk : listB [L, P] = true) (hB1 : listB ts = true) (hB2 : listB zs = true) (hT : joinT [[L, P], ts, zs] = T) (hb : Box w b 45 #[.int .i64 L, .int .i64 P, .slice a1 n1 cap1, .slice a2 n2 cap2]) (h1 : Reads w a1 n1 (ints ts)) (h2 : Reads w a2 n2 (ints zs)) :
    Calls Tryd.prog 56 #[.pointer (some ⟨b, 0, none⟩)] w fun e w' => e = .returned (.string T) ∧ Ext w w' := by
  have H1 := Lib.hid h1
  have H2 := Lib.hid h2
  have HB := Lib.hid hk
  have HB1 := Lib.hid hB1
  have HB2 := Lib.hid hB2
  have BX := Lib.hid hb
  obtain ⟨b0, b1, b2, b3⟩ := hb.four
  obtain ⟨D, hD⟩ : ∃ D, (textT [L, P]).data.toList = D := ⟨_, rfl⟩
  have HTD := Lib.hid (show textT [L, P] = ⟨D.toArray⟩ by rw [text_list, hD])
  have hDl : D.length ≤ 1408 := by rw [← hD]; exact textT_size hk
  obtain ⟨X, hX⟩ : ∃ X, (textT ts).data.toList = X := ⟨_, rfl⟩
  have HTX := Lib.hid (show textT ts = ⟨X.toArray⟩ by rw [text_list ts, hX])
  have hXl : X.length ≤ 1408 := by rw [← hX]; exact textT_size hB1
  obtain ⟨Y, hY⟩ : ∃ Y, (textT zs).data.toList = Y := ⟨_, rfl⟩
  have HTY := Lib.hid (show textT zs = ⟨Y.toArray⟩ by rw [text_list zs, hY])
  have hYl : Y.length ≤ 1408 := by rw [← hY]; exact textT_size hB2
  obtain ⟨M1, hM1⟩ : ∃ M, D ++ [59] = M := ⟨_, rfl⟩
  have m1l : M1.length ≤ 1409 := by rw [← hM1]; simp; omega
  obtain ⟨M2, hM2⟩ : ∃ M, M1 ++ X = M := ⟨_, rfl⟩
  have m2l : M2.length ≤ 2817 := by rw [← hM2, List.length_append]; omega
  obtain ⟨M3, hM3⟩ : ∃ M, M2 ++ [59] = M := ⟨_, rfl⟩
  have m3l : M3.length ≤ 2818 := by rw [← hM3]; simp; omega
  obtain ⟨M4, hM4⟩ : ∃ M, M3 ++ Y = M := ⟨_, rfl⟩
  have HTT := Lib.hid (show T = ⟨M4.toArray⟩ by rw [← hT, joinT_three, hD, hX, hY, hM1, hM2, hM3, hM4])
  have e1 : ∀ w' : World, (Op.stringOp .add ⟨D.toArray⟩ ⟨#[59]⟩).run Tryd.prog w' = .ok (.string ⟨M1.toArray⟩) w' := fun w' => by
    rw [← hM1]; exact run_string_add_lists w' D [59] (by omega) (by simp)
  have e2 : ∀ w' : World, (Op.stringOp .add ⟨M1.toArray⟩ ⟨X.toArray⟩).run Tryd.prog w' = .ok (.string ⟨M2.toArray⟩) w' := fun w' => by
    rw [← hM2]; exact run_string_add_lists w' M1 X (by omega) (by omega)
  have e3 : ∀ w' : World, (Op.stringOp .add ⟨M2.toArray⟩ ⟨#[59]⟩).run Tryd.prog w' = .ok (.string ⟨M3.toArray⟩) w' := fun w' => by
    rw [← hM3]; exact run_string_add_lists w' M2 [59] (by omega) (by simp)
  have e4 : ∀ w' : World, (Op.stringOp .add ⟨M3.toArray⟩ ⟨Y.toArray⟩).run Tryd.prog w' = .ok (.string ⟨M4.toArray⟩) w' := fun w' => by
    rw [← hM4]; exact run_string_add_lists w' M3 Y (by omega) (by omega)
  rw [HTT.out]
  clear hD hX hY hM1 hM2 hM3 hM4 hT hb h1 h2 hk hB1 hB2 hDl hXl hYl m1l m2l m3l
  go_enter Tryd.func56, Tryd.ntmps56
  go_wp2_with fail
  go_region_held3 (fun w' => w'.cell? ⟨b, 0, none⟩ = some (.int .i64 L) ∧ w'.cell? ⟨b, 1, none⟩ = some (.int .i64 P) ∧ w'.cell? ⟨b, 2, none⟩ = some (.slice a1 n1 cap1) ∧ w'.cell? ⟨b, 3, none⟩ = some (.slice a2 n2 cap2) ∧ Ext w w') (first | exact ⟨KA.1, KA.2.1, KA.2.2.1, KA.2.2.2, EA⟩ | exact ⟨b0, b1, b2, b3, by (repeat (first | assumption | exact Ext.refl _ | (with_reducible refine Ext.stepS ?_ (by first | exact Nat.le_refl _ | (simp; done) | (simp; omega)) _) | (with_reducible refine Ext.stepN ?_ _) | (with_reducible refine Ext.stepD ?_) | (with_reducible refine Ext.stepA ?_ _)))⟩ | (refine wkeep BX.out ?_; (repeat (first | assumption | exact Ext.refl _ | (with_reducible refine Ext.stepS ?_ (by first | exact Nat.le_refl _ | (simp; done) | (simp; omega)) _) | (with_reducible refine Ext.stepN ?_ _) | (with_reducible refine Ext.stepD ?_) | (with_reducible refine Ext.stepA ?_ _)))) | go_keep) (first | (go_at_call 77; with_reducible refine (c_spec_l01Text _ 2 2 [L, P] _ HB.out ?hx).mono ?_; (case hx => (first | exact lit_d L P _ _ | exact lit_a L P _ _ | exact reads_two KB)); rintro e w1 ⟨rfl, x1⟩; rw [HTD.out]; have EA : Ext w w1 := Ext.trans (by (repeat (first | assumption | exact Ext.refl _ | (with_reducible refine Ext.stepS ?_ (by first | exact Nat.le_refl _ | (simp; done) | (simp; omega)) _) | (with_reducible refine Ext.stepN ?_ _) | (with_reducible refine Ext.stepD ?_) | (with_reducible refine Ext.stepA ?_ _)))) x1; have KA := (BX.out.on EA).four; clear x1) | (go_at_call 77; with_reducible refine (c_spec_l01Text a1 n1 cap1 ts _ HB1.out (H1.out.on ?hx)).mono ?_; (case hx => (repeat (first | assumption | exact Ext.refl _ | (with_reducible refine Ext.stepS ?_ (by first | exact Nat.le_refl _ | (simp; done) | (simp; omega)) _) | (with_reducible refine Ext.stepN ?_ _) | (with_reducible refine Ext.stepD ?_) | (with_reducible refine Ext.stepA ?_ _)))); rintro e w1 ⟨rfl, x1⟩; rw [HTX.out]; have EA : Ext w w1 := Ext.trans (by (repeat (first | assumption | exact Ext.refl _ | (with_reducible refine Ext.stepS ?_ (by first | exact Nat.le_refl _ | (simp; done) | (simp; omega)) _) | (with_reducible refine Ext.stepN ?_ _) | (with_reducible refine Ext.stepD ?_) | (with_reducible refine Ext.stepA ?_ _)))) x1; have KA := (BX.out.on EA).four; (first | (with_reducible have KB := Box.on (Box.alloc _ #[.int .i64 L, .int .i64 P] 2) x1) | (with_reducible have KB := Box.on (Box.on (Box.alloc _ #[.int .i64 L, .int .i64 P] 2) (Ext.drew _)) x1) | (with_reducible have KB := KB.on x1) | skip); clear x1) | (go_at_call 77; with_reducible refine (c_spec_l01Text a2 n2 cap2 zs _ HB2.out (H2.out.on ?hx)).mono ?_; (case hx => (repeat (first | assumption | exact Ext.refl _ | (with_reducible refine Ext.stepS ?_ (by first | exact Nat.le_refl _ | (simp; done) | (simp; omega)) _) | (with_reducible refine Ext.stepN ?_ _) | (with_reducible refine Ext.stepD ?_) | (with_reducible refine Ext.stepA ?_ _)))); rintro e w1 ⟨rfl, x1⟩; rw [HTY.out]; have EA : Ext w w1 := Ext.trans (by (repeat (first | assumption | exact Ext.refl _ | (with_reducible refine Ext.stepS ?_ (by first | exact Nat.le_refl _ | (simp; done) | (simp; omega)) _) | (with_reducible refine Ext.stepN ?_ _) | (with_reducible refine Ext.stepD ?_) | (with_reducible refine Ext.stepA ?_ _)))) x1; have KA := (BX.out.on EA).four; (first | (with_reducible have KB := Box.on (Box.alloc _ #[.int .i64 L, .int .i64 P] 2) x1) | (with_reducible have KB := Box.on (Box.on (Box.alloc _ #[.int .i64 L, .int .i64 P] 2) (Ext.drew _)) x1) | (with_reducible have KB := KB.on x1) | skip); clear x1))
  all_goals
    go_wp2
    go_ret
    exact ⟨rfl, EA⟩
set_option maxRecDepth 20000 in
set_option maxHeartbeats 2000000 in
theorem c_spec_WindowText (L P : Int) (a1 : Option Addr) (cap1 : Nat) (ts : List Int) (a2 : Option Addr) (cap2 : Nat) (zs : List Int) (w : World) {rt : ByteArray} {rb : Bool} (hv : wntR L P ts zs = (rt, rb)) (hl : ts.length + zs.length ≤ 1048576) (h : Reads2 w a1 ts.length (ints ts) a2 zs.length (ints zs)) :
    Calls Tryd.prog 21 #[.agg #[.int .i64 L, .int .i64 P, .slice a1 ts.length cap1, .slice a2 zs.length cap2]] w fun e w' => e = .returned (.tuple #[.string rt, .bool rb]) ∧ Ext w w' := by
  have H := Lib.hid h
  have HM := Lib.hid hl
  have HM1 := Lib.hid (show ts.length ≤ maxLen by unfold maxLen; omega)
  have HM2 := Lib.hid (show zs.length ≤ maxLen by unfold maxLen; omega)
  have BX := Lib.hid (Box.alloc w #[.int .i64 L, .int .i64 P, .slice a1 ts.length cap1, .slice a2 zs.length cap2] 45)
  clear h hl
  obtain ⟨b0, b1, b2, b3⟩ := BX.out.four
  cases hc : winB L P ts zs
  · rw [wntR_no hc] at hv
    cases hv
    have HC := Lib.hid hc
    clear hc
    go_enter Tryd.func21, Tryd.ntmps21
    go_wp2_with (go_at_call 55; refine (c_spec_l06Is _ L P a1 cap1 ts a2 cap2 zs _ HC.out HM.out (H.out.on (by (repeat (first | assumption | exact Ext.refl _ | (with_reducible refine Ext.stepS ?_ (by first | exact Nat.le_refl _ | (simp; done) | (simp; omega)) _) | (with_reducible refine Ext.stepN ?_ _) | (with_reducible refine Ext.stepD ?_) | (with_reducible refine Ext.stepA ?_ _))))) BX.out).mono ?_; rintro e u1 ⟨rfl, q, rfl⟩)
    go_ret2
    exact ⟨rfl, by (repeat (first | assumption | exact Ext.refl _ | (with_reducible refine Ext.stepS ?_ (by first | exact Nat.le_refl _ | (simp; done) | (simp; omega)) _) | (with_reducible refine Ext.stepN ?_ _) | (with_reducible refine Ext.stepD ?_) | (with_reducible refine Ext.stepA ?_ _)))⟩
  · rw [wntR_y hc] at hv
    have hk := win_pair hc
    have h3 := lssB_three [L, P] ts zs hk
    have HK := Lib.hid hk
    have HC := Lib.hid hc
    clear hc hk
    cases h1 : listB ts
    · rw [h1, Bool.false_and] at h3
      rw [lssT_no h3, h3] at hv
      cases hv
      have HL1 := Lib.hid h1
      clear h1 h3
      go_enter Tryd.func21, Tryd.ntmps21
      go_wp2_with (first | (go_at_call 55; refine (c_spec_l06Is _ L P a1 cap1 ts a2 cap2 zs _ HC.out HM.out (H.out.on (by (repeat (first | assumption | exact Ext.refl _ | (with_reducible refine Ext.stepS ?_ (by first | exact Nat.le_refl _ | (simp; done) | (simp; omega)) _) | (with_reducible refine Ext.stepN ?_ _) | (with_reducible refine Ext.stepD ?_) | (with_reducible refine Ext.stepA ?_ _))))) BX.out).mono ?_; rintro e u1 ⟨rfl, q, rfl⟩; obtain ⟨d0, d1, d2, d3⟩ := (BX.out.on (Ext.drewN _ q)).four) | (go_at_call 43; with_reducible refine (c_spec_l01List a1 _ cap1 ts _ HM1.out (H.out.r1.on ?hx)).mono ?_; (case hx => (repeat (first | assumption | exact Ext.refl _ | (with_reducible refine Ext.stepS ?_ (by first | exact Nat.le_refl _ | (simp; done) | (simp; omega)) _) | (with_reducible refine Ext.stepN ?_ _) | (with_reducible refine Ext.stepD ?_) | (with_reducible refine Ext.stepA ?_ _)))); rintro e w' ⟨rfl, rfl⟩; rw [HL1.out]))
      go_ret2
      exact ⟨rfl, by (repeat (first | assumption | exact Ext.refl _ | (with_reducible refine Ext.stepS ?_ (by first | exact Nat.le_refl _ | (simp; done) | (simp; omega)) _) | (with_reducible refine Ext.stepN ?_ _) | (with_reducible refine Ext.stepD ?_) | (with_reducible refine Ext.stepA ?_ _)))⟩
    · cases h2 : listB zs
      · rw [h1, h2] at h3
        have h3 : lssB [[L, P], ts, zs] = false := h3
        rw [lssT_no h3, h3] at hv
        cases hv
        have HL1 := Lib.hid h1
        have HL2 := Lib.hid h2
        clear h1 h2 h3
        go_enter Tryd.func21, Tryd.ntmps21
        go_wp2_with (first | (go_at_call 55; refine (c_spec_l06Is _ L P a1 cap1 ts a2 cap2 zs _ HC.out HM.out (H.out.on (by (repeat (first | assumption | exact Ext.refl _ | (with_reducible refine Ext.stepS ?_ (by first | exact Nat.le_refl _ | (simp; done) | (simp; omega)) _) | (with_reducible refine Ext.stepN ?_ _) | (with_reducible refine Ext.stepD ?_) | (with_reducible refine Ext.stepA ?_ _))))) BX.out).mono ?_; rintro e u1 ⟨rfl, q, rfl⟩; obtain ⟨d0, d1, d2, d3⟩ := (BX.out.on (Ext.drewN _ q)).four) | (go_at_call 43; with_reducible refine (c_spec_l01List a1 _ cap1 ts _ HM1.out (H.out.r1.on ?hx)).mono ?_; (case hx => (repeat (first | assumption | exact Ext.refl _ | (with_reducible refine Ext.stepS ?_ (by first | exact Nat.le_refl _ | (simp; done) | (simp; omega)) _) | (with_reducible refine Ext.stepN ?_ _) | (with_reducible refine Ext.stepD ?_) | (with_reducible refine Ext.stepA ?_ _)))); rintro e w' ⟨rfl, rfl⟩; rw [HL1.out]) | (go_at_call 43; with_reducible refine (c_spec_l01List a2 _ cap2 zs _ HM2.out (H.out.r2.on ?hx)).mono ?_; (case hx => (repeat (first | assumption | exact Ext.refl _ | (with_reducible refine Ext.stepS ?_ (by first | exact Nat.le_refl _ | (simp; done) | (simp; omega)) _) | (with_reducible refine Ext.stepN ?_ _) | (with_reducible refine Ext.stepD ?_) | (with_reducible refine Ext.stepA ?_ _)))); rintro e w' ⟨rfl, rfl⟩; rw [HL2.out]))
        go_ret2
        exact ⟨rfl, by (repeat (first | assumption | exact Ext.refl _ | (with_reducible refine Ext.stepS ?_ (by first | exact Nat.le_refl _ | (simp; done) | (simp; omega)) _) | (with_reducible refine Ext.stepN ?_ _) | (with_reducible refine Ext.stepD ?_) | (with_reducible refine Ext.stepA ?_ _)))⟩
      · rw [h1, h2] at h3
        have h3 : lssB [[L, P], ts, zs] = true := h3
        rw [lssT_yes h3, h3] at hv
        cases hv
        have HL1 := Lib.hid h1
        have HL2 := Lib.hid h2
        obtain ⟨T, hTT⟩ : ∃ T, joinT [[L, P], ts, zs] = T := ⟨_, rfl⟩
        have HTT := Lib.hid hTT
        rw [hTT]
        clear h1 h2 h3 hTT
        go_enter Tryd.func21, Tryd.ntmps21
        go_wp2_with (first | (go_at_call 55; refine (c_spec_l06Is _ L P a1 cap1 ts a2 cap2 zs _ HC.out HM.out (H.out.on (by (repeat (first | assumption | exact Ext.refl _ | (with_reducible refine Ext.stepS ?_ (by first | exact Nat.le_refl _ | (simp; done) | (simp; omega)) _) | (with_reducible refine Ext.stepN ?_ _) | (with_reducible refine Ext.stepD ?_) | (with_reducible refine Ext.stepA ?_ _))))) BX.out).mono ?_; rintro e u1 ⟨rfl, q, rfl⟩; obtain ⟨d0, d1, d2, d3⟩ := (BX.out.on (Ext.drewN _ q)).four) | (go_at_call 43; with_reducible refine (c_spec_l01List a1 _ cap1 ts _ HM1.out (H.out.r1.on ?hx)).mono ?_; (case hx => (repeat (first | assumption | exact Ext.refl _ | (with_reducible refine Ext.stepS ?_ (by first | exact Nat.le_refl _ | (simp; done) | (simp; omega)) _) | (with_reducible refine Ext.stepN ?_ _) | (with_reducible refine Ext.stepD ?_) | (with_reducible refine Ext.stepA ?_ _)))); rintro e w' ⟨rfl, rfl⟩; rw [HL1.out]) | (go_at_call 43; with_reducible refine (c_spec_l01List a2 _ cap2 zs _ HM2.out (H.out.r2.on ?hx)).mono ?_; (case hx => (repeat (first | assumption | exact Ext.refl _ | (with_reducible refine Ext.stepS ?_ (by first | exact Nat.le_refl _ | (simp; done) | (simp; omega)) _) | (with_reducible refine Ext.stepN ?_ _) | (with_reducible refine Ext.stepD ?_) | (with_reducible refine Ext.stepA ?_ _)))); rintro e w' ⟨rfl, rfl⟩; rw [HL2.out]) | (go_at_call 56; refine (c_spec_l08Window _ L P a1 _ cap1 ts a2 _ cap2 zs _ HK.out HL1.out HL2.out HTT.out (BX.out.on (by (repeat (first | assumption | exact Ext.refl _ | (with_reducible refine Ext.stepS ?_ (by first | exact Nat.le_refl _ | (simp; done) | (simp; omega)) _) | (with_reducible refine Ext.stepN ?_ _) | (with_reducible refine Ext.stepD ?_) | (with_reducible refine Ext.stepA ?_ _))))) (H.out.r1.on (by (repeat (first | assumption | exact Ext.refl _ | (with_reducible refine Ext.stepS ?_ (by first | exact Nat.le_refl _ | (simp; done) | (simp; omega)) _) | (with_reducible refine Ext.stepN ?_ _) | (with_reducible refine Ext.stepD ?_) | (with_reducible refine Ext.stepA ?_ _))))) (H.out.r2.on (by (repeat (first | assumption | exact Ext.refl _ | (with_reducible refine Ext.stepS ?_ (by first | exact Nat.le_refl _ | (simp; done) | (simp; omega)) _) | (with_reducible refine Ext.stepN ?_ _) | (with_reducible refine Ext.stepD ?_) | (with_reducible refine Ext.stepA ?_ _)))))).mono ?_; rintro e w1 ⟨rfl, x1⟩; have X1 : Ext w w1 := Ext.trans (by (repeat (first | assumption | exact Ext.refl _ | (with_reducible refine Ext.stepS ?_ (by first | exact Nat.le_refl _ | (simp; done) | (simp; omega)) _) | (with_reducible refine Ext.stepN ?_ _) | (with_reducible refine Ext.stepD ?_) | (with_reducible refine Ext.stepA ?_ _)))) x1; clear x1))
        go_ret2
        exact ⟨rfl, X1⟩
end Go.Proofs.YtgejfeedcphfkaaDoor
