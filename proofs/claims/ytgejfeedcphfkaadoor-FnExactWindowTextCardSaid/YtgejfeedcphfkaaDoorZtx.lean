/- ZerosText: both sides. -/
import Derived.Test.YtgejfeedcphfkaaDoorTol
import Derived.Test.YtgejfeedcphfkaaDoorFin
import Derived.Deep.RegionHeld3
import Derived.Deep.QuietTactic
import Derived.BigQuiet
namespace Go.Proofs.YtgejfeedcphfkaaDoor
open Go.ChangeShapes Go.WideShapes Go.ChangeAt Go.RowKit
set_option linter.unusedVariables false
def ztR (S : Int) (zs : List Int) : ByteArray × Bool := if cellsUp S zs 16 5 33 then (lssT [[S], zs], lssB [[S], zs]) else (⟨#[]⟩, false)
theorem ztR_no {S : Int} {zs : List Int} (h : cellsUp S zs 16 5 33 = false) : ztR S zs = (⟨#[]⟩, false) := by unfold ztR; rw [h]; rfl
theorem ztR_y {S : Int} {zs : List Int} (h : cellsUp S zs 16 5 33 = true) : ztR S zs = (lssT [[S], zs], lssB [[S], zs]) := by unfold ztR; rw [h]; rfl
theorem cells_key {S : Int} {zs : List Int} (h : cellsUp S zs 16 5 33 = true) : keyB S = true := by
  cases hk : keyB S
  · rw [cellsUp_1 hk] at h; cases h
  · rfl
theorem key_val {S : Int} (h : keyB S = true) : valB S = true := by
  have := keyB_yes h
  exact decide_eq_true (by omega)
theorem list_one {S : Int} (h : valB S = true) : listB [S] = true := by unfold listB; simp [h]
theorem text_list (zs : List Int) : textT zs = ⟨(textT zs).data.toList.toArray⟩ := by simp
theorem textT_one (S : Int) : (textT [S]).data.toList = Lib.itoa S := by
  unfold textT
  rw [if_neg (by simp)]
  show (outL [S] 1).toArray.toList = _
  rw [outL_one (x := S) (by simp) rfl]
theorem joinT_two (xs ys : List Int) : joinT [xs, ys] = ⟨((textT xs).data.toList ++ (59 :: (textT ys).data.toList)).toArray⟩ := by
  unfold joinT partS
  simp only [List.map_cons, List.map_nil]
  rw [Lib.join_cons]
  simp [Lib.joinTail]
theorem lssB_two (S : Int) (zs : List Int) (h : valB S = true) : lssB [[S], zs] = listB zs := by
  unfold lssB
  simp [list_one h]
theorem lsAt2 {w : World} {g : Nat} {t : TypeId} {l0 l1 : List Int} {a0 a1 : Option Addr} {c0 c1 : Nat} (b : Box w g t #[.slice a0 l0.length c0, .slice a1 l1.length c1]) (r0 : Reads w a0 l0.length (ints l0)) (m0 : l0.length ≤ maxLen) (r1 : Reads w a1 l1.length (ints l1)) (m1 : l1.length ≤ maxLen) :
    LsAt w g 2 [l0, l1] (fun i => if i = 0 then a0 else a1) (fun i => if i = 0 then c0 else c1) := by
  obtain ⟨q0, q1⟩ := b.two
  refine ⟨rfl, fun i hi => ?_, fun i hi => ?_⟩
  · by_cases h0 : i = 0
    · subst h0; exact q0
    · obtain rfl : i = 1 := by omega
      exact q1
  · by_cases h0 : i = 0
    · subst h0; exact ⟨r0, m0⟩
    · obtain rfl : i = 1 := by omega
      exact ⟨r1, m1⟩
theorem reads_one {w : World} {g : Nat} {t : TypeId} {S : Int} (b : Box w g t #[.int .i64 S]) : Reads w (some ⟨g, 0, none⟩) 1 (ints [S]) := by
  refine ⟨rfl, .inr ⟨g, 0, rfl, fun i hi => ?_⟩⟩
  obtain rfl : i = 0 := by omega
  exact b.cell 0
set_option maxHeartbeats 2000000 in
theorem c_impl_ZerosText (S : Int) (a : Option Addr) (n cap : Nat) (zs : List Int) (w : World) {rt : ByteArray} {rb : Bool} (hv : ztR S zs = (rt, rb)) (hm : n ≤ maxLen) (h : Reads w a n (ints zs)) (hT : TabP w) :
    Calls Tryd.prog 13 #[.agg #[.int .i64 S, .slice a n cap]] w fun e w' => e = .returned (.tuple #[.string rt, .bool rb]) ∧ Ext w w' := by
  have H := Lib.hid h
  have HT := Lib.hid hT
  have HM := Lib.hid hm
  have hz := h.int.1
  subst hz
  have BX := Lib.hid (Box.alloc w #[.int .i64 S, .slice a zs.length cap] 28)
  clear h hT
  cases hc : cellsUp S zs 16 5 33
  · rw [ztR_no hc] at hv
    cases hv
    have HC := Lib.hid hc
    clear hc
    obtain ⟨b0, b1⟩ := BX.out.two
    go_enter Tryd.func13, Tryd.ntmps13
    go_wp2_with fail
    refine (c_impl_ValidZeros S a _ cap zs _ HC.out HM.out (H.out.on (by (repeat (first | assumption | exact Ext.refl _ | (with_reducible refine Ext.stepS ?_ (by first | exact Nat.le_refl _ | (simp; done) | (simp; omega)) _) | (with_reducible refine Ext.stepN ?_ _) | (with_reducible refine Ext.stepD ?_) | (with_reducible refine Ext.stepA ?_ _)))))).mono ?_; rintro e w1 ⟨rfl, x1⟩
    have X1 := Lib.hid (show Ext w w1 from Ext.trans (by (repeat (first | assumption | exact Ext.refl _ | (with_reducible refine Ext.stepS ?_ (by first | exact Nat.le_refl _ | (simp; done) | (simp; omega)) _) | (with_reducible refine Ext.stepN ?_ _) | (with_reducible refine Ext.stepD ?_) | (with_reducible refine Ext.stepA ?_ _)))) x1)
    clear x1
    go_wp2
    go_ret2
    exact ⟨rfl, X1.out⟩
  · rw [ztR_y hc] at hv
    cases hv
    have HC := Lib.hid hc
    clear hc
    obtain ⟨b0, b1⟩ := BX.out.two
    obtain ⟨T, hTT⟩ : ∃ T, lssT [[S], zs] = T := ⟨_, rfl⟩
    obtain ⟨B, hBB⟩ : ∃ B, lssB [[S], zs] = B := ⟨_, rfl⟩
    have HTT := Lib.hid hTT
    have HBB := Lib.hid hBB
    rw [hTT, hBB]
    clear hTT hBB
    go_enter Tryd.func13, Tryd.ntmps13
    go_wp2_with fail
    refine (c_impl_ValidZeros S a _ cap zs _ HC.out HM.out (H.out.on (by (repeat (first | assumption | exact Ext.refl _ | (with_reducible refine Ext.stepS ?_ (by first | exact Nat.le_refl _ | (simp; done) | (simp; omega)) _) | (with_reducible refine Ext.stepN ?_ _) | (with_reducible refine Ext.stepD ?_) | (with_reducible refine Ext.stepA ?_ _)))))).mono ?_; rintro e w1 ⟨rfl, x1⟩
    have X1 := Lib.hid (show Ext w w1 from Ext.trans (by (repeat (first | assumption | exact Ext.refl _ | (with_reducible refine Ext.stepS ?_ (by first | exact Nat.le_refl _ | (simp; done) | (simp; omega)) _) | (with_reducible refine Ext.stepN ?_ _) | (with_reducible refine Ext.stepD ?_) | (with_reducible refine Ext.stepA ?_ _)))) x1)
    obtain ⟨d0, d1⟩ := (BX.out.on x1).two
    obtain ⟨g0, g1⟩ := ((BX.out.on x1).past (.cells #[.int .i64 S] 2)).two
    have BA := Lib.hid ((Box.alloc w1 #[.int .i64 S] 2).past (.cells #[.slice (some ⟨w1.heap.size, 0, none⟩) 1 1, .slice a zs.length cap] 22))
    have BL := Lib.hid (Box.alloc_at (w1.alloc (.cells #[.int .i64 S] 2)) #[.slice (some ⟨w1.heap.size, 0, none⟩) 1 1, .slice a zs.length cap] 22 (b := w1.heap.size + 1) (by simp))
    have HLS := Lib.hid (lsAt2 (l0 := [S]) (l1 := zs) BL.out (reads_one BA.out) (by unfold maxLen; simp) (H.out.on (X1.out.trans (by (repeat (first | assumption | exact Ext.refl _ | (with_reducible refine Ext.stepS ?_ (by first | exact Nat.le_refl _ | (simp; done) | (simp; omega)) _) | (with_reducible refine Ext.stepN ?_ _) | (with_reducible refine Ext.stepD ?_) | (with_reducible refine Ext.stepA ?_ _)))))) HM.out)
    clear x1 b0 b1
    go_wp2_with fail
    refine (c_textOfLists (w1.heap.size + 1) 2 2 [[S], zs] _ _ _ (by decide) (HT.out.on (X1.out.trans (by (repeat (first | assumption | exact Ext.refl _ | (with_reducible refine Ext.stepS ?_ (by first | exact Nat.le_refl _ | (simp; done) | (simp; omega)) _) | (with_reducible refine Ext.stepN ?_ _) | (with_reducible refine Ext.stepD ?_) | (with_reducible refine Ext.stepA ?_ _)))))) HLS.out).mono ?_; rintro e w2 ⟨rfl, x2⟩
    rw [HTT.out, HBB.out]
    have X2 := Lib.hid (show Ext w w2 from X1.out.trans (Ext.trans (by (repeat (first | assumption | exact Ext.refl _ | (with_reducible refine Ext.stepS ?_ (by first | exact Nat.le_refl _ | (simp; done) | (simp; omega)) _) | (with_reducible refine Ext.stepN ?_ _) | (with_reducible refine Ext.stepD ?_) | (with_reducible refine Ext.stepA ?_ _)))) x2))
    clear x2
    go_wp2
    go_ret2
    exact ⟨rfl, X2.out⟩
set_option maxHeartbeats 4000000 in
theorem c_spec_l08Zeros (b : Nat) (S : Int) (a : Option Addr) (n cap : Nat) (zs : List Int) (w : World) {T : ByteArray} (hk : valB S = true) (hB : listB zs = true) (hT : joinT [[S], zs] = T) (hb : Box w b 28 #[.int .i64 S, .slice a n cap]) (h : Reads w a n (ints zs)) :
    Calls Tryd.prog 44 #[.pointer (some ⟨b, 0, none⟩)] w fun e w' => e = .returned (.string T) ∧ Ext w w' := by
  have H := Lib.hid h
  have HB := Lib.hid hB
  have HK := Lib.hid hk
  have BX := Lib.hid hb
  obtain ⟨b0, b1⟩ := hb.two
  obtain ⟨D, hD⟩ : ∃ D, Lib.itoa S = D := ⟨_, rfl⟩
  have HD := Lib.hid hD
  have hDl : D.length ≤ 21 := by rw [← hD]; exact itoa_len hk
  obtain ⟨L, hL⟩ : ∃ L, (textT zs).data.toList = L := ⟨_, rfl⟩
  have HL := Lib.hid (show textT zs = ⟨L.toArray⟩ by rw [text_list zs, hL])
  have hLl : L.length ≤ 1408 := by rw [← hL]; exact textT_size hB
  obtain ⟨M, hM⟩ : ∃ M, D ++ [59] = M := ⟨_, rfl⟩
  have hMl : M.length ≤ 22 := by rw [← hM]; simp; omega
  obtain ⟨N, hN⟩ : ∃ N, M ++ L = N := ⟨_, rfl⟩
  have HTT := Lib.hid (show T = ⟨N.toArray⟩ by rw [← hT, joinT_two, textT_one, hD, hL, ← hN, ← hM]; simp)
  have e1 : ∀ w' : World, (Op.stringOp .add ⟨D.toArray⟩ ⟨#[59]⟩).run Tryd.prog w' = .ok (.string ⟨M.toArray⟩) w' := fun w' => by
    rw [← hM]; exact run_string_add_lists w' D [59] (by omega) (by simp)
  have e2 : ∀ w' : World, (Op.stringOp .add ⟨M.toArray⟩ ⟨L.toArray⟩).run Tryd.prog w' = .ok (.string ⟨N.toArray⟩) w' := fun w' => by
    rw [← hN]; exact run_string_add_lists w' M L (by omega) (by omega)
  rw [HTT.out]
  clear hD hL hM hN hT hb h hB hk hDl hLl hMl
  go_enter Tryd.func44, Tryd.ntmps44
  go_wp2_with fail
  go_region_held3 (fun w' => w'.cell? ⟨b, 0, none⟩ = some (.int .i64 S) ∧ w'.cell? ⟨b, 1, none⟩ = some (.slice a n cap) ∧ Ext w w') (first | exact ⟨KA.1, KA.2, EA⟩ | exact ⟨b0, b1, by (repeat (first | assumption | exact Ext.refl _ | (with_reducible refine Ext.stepS ?_ (by first | exact Nat.le_refl _ | (simp; done) | (simp; omega)) _) | (with_reducible refine Ext.stepN ?_ _) | (with_reducible refine Ext.stepD ?_) | (with_reducible refine Ext.stepA ?_ _)))⟩ | go_keep) (first | (go_at_call 76; refine (c_dec_of S D _ HK.out HD.out).mono ?_; rintro e w1 ⟨rfl, x1⟩; have EA : Ext w w1 := Ext.trans (by (repeat (first | assumption | exact Ext.refl _ | (with_reducible refine Ext.stepS ?_ (by first | exact Nat.le_refl _ | (simp; done) | (simp; omega)) _) | (with_reducible refine Ext.stepN ?_ _) | (with_reducible refine Ext.stepD ?_) | (with_reducible refine Ext.stepA ?_ _)))) x1; have KA := (BX.out.on EA).two; clear x1) | (go_at_call 77; refine (c_spec_l01Text _ _ _ zs _ HB.out (H.out.on (by (repeat (first | assumption | exact Ext.refl _ | (with_reducible refine Ext.stepS ?_ (by first | exact Nat.le_refl _ | (simp; done) | (simp; omega)) _) | (with_reducible refine Ext.stepN ?_ _) | (with_reducible refine Ext.stepD ?_) | (with_reducible refine Ext.stepA ?_ _)))))).mono ?_; rintro e w1 ⟨rfl, x1⟩; rw [HL.out]; have EA : Ext w w1 := Ext.trans (by (repeat (first | assumption | exact Ext.refl _ | (with_reducible refine Ext.stepS ?_ (by first | exact Nat.le_refl _ | (simp; done) | (simp; omega)) _) | (with_reducible refine Ext.stepN ?_ _) | (with_reducible refine Ext.stepD ?_) | (with_reducible refine Ext.stepA ?_ _)))) x1; have KA := (BX.out.on EA).two; clear x1))
  all_goals
    go_wp2
    go_ret
    exact ⟨rfl, EA⟩
set_option maxHeartbeats 2000000 in
theorem c_spec_ZerosText (S : Int) (a : Option Addr) (n cap : Nat) (zs : List Int) (w : World) {rt : ByteArray} {rb : Bool} (hv : ztR S zs = (rt, rb)) (hm : n ≤ maxLen) (h : Reads w a n (ints zs)) :
    Calls Tryd.prog 11 #[.agg #[.int .i64 S, .slice a n cap]] w fun e w' => e = .returned (.tuple #[.string rt, .bool rb]) ∧ Ext w w' := by
  have H := Lib.hid h
  have HM := Lib.hid hm
  have BX := Lib.hid (Box.alloc w #[.int .i64 S, .slice a n cap] 28)
  clear h
  obtain ⟨b0, b1⟩ := BX.out.two
  cases hc : cellsUp S zs 16 5 33
  · rw [ztR_no hc] at hv
    cases hv
    have HC := Lib.hid hc
    clear hc
    go_enter Tryd.func11, Tryd.ntmps11
    go_wp2_with (go_at_call 42; refine (c_spec_l04Zeros _ S a n cap zs _ HC.out BX.out HM.out (H.out.on (by (repeat (first | assumption | exact Ext.refl _ | (with_reducible refine Ext.stepS ?_ (by first | exact Nat.le_refl _ | (simp; done) | (simp; omega)) _) | (with_reducible refine Ext.stepN ?_ _) | (with_reducible refine Ext.stepD ?_) | (with_reducible refine Ext.stepA ?_ _)))))).mono ?_; rintro e u1 ⟨rfl, q, rfl⟩)
    go_ret2
    exact ⟨rfl, by (repeat (first | assumption | exact Ext.refl _ | (with_reducible refine Ext.stepS ?_ (by first | exact Nat.le_refl _ | (simp; done) | (simp; omega)) _) | (with_reducible refine Ext.stepN ?_ _) | (with_reducible refine Ext.stepD ?_) | (with_reducible refine Ext.stepA ?_ _)))⟩
  · rw [ztR_y hc] at hv
    have hkv := key_val (cells_key hc)
    have h2 := lssB_two S zs hkv
    have HK := Lib.hid hkv
    have HC := Lib.hid hc
    clear hc
    cases hl : listB zs
    · rw [hl] at h2
      rw [lssT_no h2, h2] at hv
      cases hv
      have HL := Lib.hid hl
      clear hl h2 hkv
      go_enter Tryd.func11, Tryd.ntmps11
      go_wp2_with (first | (go_at_call 42; refine (c_spec_l04Zeros _ S a n cap zs _ HC.out BX.out HM.out (H.out.on (by (repeat (first | assumption | exact Ext.refl _ | (with_reducible refine Ext.stepS ?_ (by first | exact Nat.le_refl _ | (simp; done) | (simp; omega)) _) | (with_reducible refine Ext.stepN ?_ _) | (with_reducible refine Ext.stepD ?_) | (with_reducible refine Ext.stepA ?_ _)))))).mono ?_; rintro e u1 ⟨rfl, q, rfl⟩) | (go_at_call 43; refine (c_spec_l01List _ _ _ zs _ HM.out (H.out.on (by (repeat (first | assumption | exact Ext.refl _ | (with_reducible refine Ext.stepS ?_ (by first | exact Nat.le_refl _ | (simp; done) | (simp; omega)) _) | (with_reducible refine Ext.stepN ?_ _) | (with_reducible refine Ext.stepD ?_) | (with_reducible refine Ext.stepA ?_ _)))))).mono ?_; rintro e w' ⟨rfl, rfl⟩; rw [HL.out]))
      go_ret2
      exact ⟨rfl, by (repeat (first | assumption | exact Ext.refl _ | (with_reducible refine Ext.stepS ?_ (by first | exact Nat.le_refl _ | (simp; done) | (simp; omega)) _) | (with_reducible refine Ext.stepN ?_ _) | (with_reducible refine Ext.stepD ?_) | (with_reducible refine Ext.stepA ?_ _)))⟩
    · rw [hl] at h2
      rw [lssT_yes h2, h2] at hv
      cases hv
      have HL := Lib.hid hl
      obtain ⟨T, hTT⟩ : ∃ T, joinT [[S], zs] = T := ⟨_, rfl⟩
      have HTT := Lib.hid hTT
      rw [hTT]
      clear hl h2 hkv hTT
      go_enter Tryd.func11, Tryd.ntmps11
      go_wp2_with (first | (go_at_call 42; refine (c_spec_l04Zeros _ S a n cap zs _ HC.out BX.out HM.out (H.out.on (by (repeat (first | assumption | exact Ext.refl _ | (with_reducible refine Ext.stepS ?_ (by first | exact Nat.le_refl _ | (simp; done) | (simp; omega)) _) | (with_reducible refine Ext.stepN ?_ _) | (with_reducible refine Ext.stepD ?_) | (with_reducible refine Ext.stepA ?_ _)))))).mono ?_; rintro e u1 ⟨rfl, q, rfl⟩) | (go_at_call 43; refine (c_spec_l01List _ _ _ zs _ HM.out (H.out.on (by (repeat (first | assumption | exact Ext.refl _ | (with_reducible refine Ext.stepS ?_ (by first | exact Nat.le_refl _ | (simp; done) | (simp; omega)) _) | (with_reducible refine Ext.stepN ?_ _) | (with_reducible refine Ext.stepD ?_) | (with_reducible refine Ext.stepA ?_ _)))))).mono ?_; rintro e w' ⟨rfl, rfl⟩; rw [HL.out]) | (go_at_call 44; refine (c_spec_l08Zeros _ S a n cap zs _ HK.out HL.out HTT.out (BX.out.on (by (repeat (first | assumption | exact Ext.refl _ | (with_reducible refine Ext.stepS ?_ (by first | exact Nat.le_refl _ | (simp; done) | (simp; omega)) _) | (with_reducible refine Ext.stepN ?_ _) | (with_reducible refine Ext.stepD ?_) | (with_reducible refine Ext.stepA ?_ _))))) (H.out.on (by (repeat (first | assumption | exact Ext.refl _ | (with_reducible refine Ext.stepS ?_ (by first | exact Nat.le_refl _ | (simp; done) | (simp; omega)) _) | (with_reducible refine Ext.stepN ?_ _) | (with_reducible refine Ext.stepD ?_) | (with_reducible refine Ext.stepA ?_ _)))))).mono ?_; rintro e w1 ⟨rfl, x1⟩; have X1 : Ext w w1 := Ext.trans (by (repeat (first | assumption | exact Ext.refl _ | (with_reducible refine Ext.stepS ?_ (by first | exact Nat.le_refl _ | (simp; done) | (simp; omega)) _) | (with_reducible refine Ext.stepN ?_ _) | (with_reducible refine Ext.stepD ?_) | (with_reducible refine Ext.stepA ?_ _)))) x1; clear x1))
      go_ret2
      exact ⟨rfl, X1⟩
end Go.Proofs.YtgejfeedcphfkaaDoor
