/- SieveText: both sides. -/
import Derived.Test.YtgejfeedcphfkaaDoorZtx
import Derived.Test.YtgejfeedcphfkaaDoorSiv
import Derived.Deep.RegionWith
import Derived.Deep.DeepCutAuto
import Derived.Deep.LoopGhost
namespace Go.Proofs.YtgejfeedcphfkaaDoor
open Go.ChangeShapes Go.WideShapes Go.ChangeAt Go.RowKit
set_option linter.unusedVariables false
/-- a letter for each bit -/
def bitC (b : Bool) : UInt8 := if b then 49 else 48
def bitL (bs : List Bool) : List UInt8 := bs.map bitC
theorem bitL_length (bs : List Bool) : (bitL bs).length = bs.length := by simp [bitL]
def svT (R S : Int) (bs : List Bool) : ByteArray := ⟨((textT [R, S]).data.toList ++ (59 :: bitL bs)).toArray⟩
def svtR (R S : Int) (bs : List Bool) : ByteArray × Bool := if gridB R S bs.length then (svT R S bs, true) else (⟨#[]⟩, false)
theorem svtR_no {R S : Int} {bs : List Bool} (h : gridB R S bs.length = false) : svtR R S bs = (⟨#[]⟩, false) := by unfold svtR; rw [h]; rfl
theorem svtR_y {R S : Int} {bs : List Bool} (h : gridB R S bs.length = true) : svtR R S bs = (svT R S bs, true) := by unfold svtR; rw [h]; rfl
theorem grid_vals {R S : Int} {n : Nat} (h : gridB R S n = true) : listB [R, S] = true ∧ n ≤ 512 := by
  unfold gridB at h
  simp only [Bool.and_eq_true, inB_is] at h
  obtain ⟨h1, h2, h3⟩ := h
  have hk : 0 ≤ S ∧ S < 4294967296 := by first | exact keyB_yes h3 | exact keyB_yes h2
  have hr : valB R = true := decide_eq_true (by omega)
  have hs : valB S = true := decide_eq_true (by omega)
  refine ⟨by unfold listB; simp [hr, hs], by omega⟩
theorem bits_snoc {bs : List Bool} {k : Nat} (h : k < bs.length) : bitL (bs.take (k + 1)) = bitL (bs.take k) ++ [bitC (bs[k]?.getD false)] := by
  unfold bitL
  rw [List.take_succ_eq_append_getElem h, List.map_append, List.getElem?_eq_getElem h]
  rfl
theorem lsAt1 {w : World} {g : Nat} {t : TypeId} {l0 : List Int} {a0 : Option Addr} {c0 : Nat} (b : Box w g t #[.slice a0 l0.length c0]) (r0 : Reads w a0 l0.length (ints l0)) (m0 : l0.length ≤ maxLen) :
    LsAt w g 1 [l0] (fun _ => a0) (fun _ => c0) := by
  refine ⟨rfl, fun i hi => ?_, fun i hi => ?_⟩
  · obtain rfl : i = 0 := by omega
    exact b.cell 0
  · obtain rfl : i = 0 := by omega
    exact ⟨r0, m0⟩
theorem reads_two {w : World} {g : Nat} {t : TypeId} {R S : Int} (b : Box w g t #[.int .i64 R, .int .i64 S]) : Reads w (some ⟨g, 0, none⟩) 2 (ints [R, S]) := by
  obtain ⟨q0, q1⟩ := b.two
  refine ⟨rfl, .inr ⟨g, 0, rfl, fun i hi => ?_⟩⟩
  by_cases h0 : i = 0
  · subst h0; exact q0
  · obtain rfl : i = 1 := by omega
    exact q1
theorem joinT_one (xs : List Int) : joinT [xs] = textT xs := by
  unfold joinT partS
  simp only [List.map_cons, List.map_nil]
  rw [Lib.join_one]
theorem lssB_one (xs : List Int) : lssB [xs] = listB xs := by unfold lssB; simp
theorem lssT_one (xs : List Int) (h : listB xs = true) : lssT [xs] = textT xs := by rw [lssT_yes (by rw [lssB_one]; exact h), joinT_one]
/-- the letters made so far -/
def bitF (bs : List Bool) (k i : Nat) : Value := if i < k then .int .u8 ((bitC (bs[i]?.getD false)).toNat : Int) else .int .u8 0
theorem bitF_step (bs : List Bool) (k : Nat) {z : Int} (hz : ((bitC (bs[k]?.getD false)).toNat : Int) = z) {w : World} {b n : Nat} {t : TypeId} (h : w.rowIs b t n (bitF bs k)) : (w.setCell ⟨b, k, none⟩ (.int .u8 z)).rowIs b t n (bitF bs (k + 1)) := by
  subst hz
  refine (h.set k _).congr fun i hi => ?_
  unfold bitF
  by_cases e : i = k
  · subst e; rw [if_pos rfl, if_pos (by omega)]
  · rw [if_neg e]
    by_cases e2 : i < k
    · rw [if_pos e2, if_pos (by omega)]
    · rw [if_neg e2, if_neg (by omega)]
theorem bitF_set2 (bs : List Bool) (k : Nat) {w : World} {b n : Nat} {t : TypeId} (h : w.rowIs b t n (bitF bs k)) (u v : Value) : ((w.setCell ⟨b, k, none⟩ u).setCell ⟨b, k, none⟩ v).rowIs b t n (fun i => if i = k then v else bitF bs k i) := by
  refine ((h.set k u).set k v).congr fun i hi => ?_
  by_cases e : i = k
  · rw [if_pos e, if_pos e]
  · rw [if_neg e, if_neg e, if_neg e]
theorem bitF_step2 (bs : List Bool) (k : Nat) {z : Int} (hz : ((bitC (bs[k]?.getD false)).toNat : Int) = z) (u : Value) {w : World} {b n : Nat} {t : TypeId} (h : w.rowIs b t n (bitF bs k)) : ((w.setCell ⟨b, k, none⟩ u).setCell ⟨b, k, none⟩ (.int .u8 z)).rowIs b t n (bitF bs (k + 1)) := by
  subst hz
  refine (bitF_set2 bs k h u _).congr fun i hi => ?_
  unfold bitF
  by_cases e : i = k
  · subst e; rw [if_pos rfl, if_pos (by omega)]
  · rw [if_neg e]
    by_cases e2 : i < k
    · rw [if_pos e2, if_pos (by omega)]
    · rw [if_neg e2, if_neg (by omega)]
set_option maxHeartbeats 2000000 in
theorem c_textOfBits (a : Option Addr) (n cap : Nat) (bs : List Bool) (w : World) (hn : n ≤ 512) (h : Reads w a n (bools bs)) :
    Calls Tryd.prog 53 #[.slice a n cap] w fun e w' => e = .returned (.string ⟨(bitL bs).toArray⟩) ∧ Ext w w' := by
  obtain ⟨hz, hr⟩ := h.bool
  have HR := Lib.hid hr
  have HZ := Lib.hid hz
  have hnI : (n : Int) ≤ 512 := by omega
  have hmk := run_make_row' (P := Tryd.prog) 90 5 (.int .u8 0) 1 Tryd.underlying90 info_u8 rfl .i64 .i64 n (by omega) (by omega)
  clear h hr hz
  go_enter Tryd.func53, Tryd.ntmps53
  go_wp2
  go_loopw [11] (fun i wr => ∃ k : Nat, k ≤ n ∧ i = .int .i64 k ∧ wr.rowIs w.heap.size 5 n (bitF bs k) ∧ Ext w wr) (fun i _ => n - (intOf i).toNat)
  case atStart => exact ⟨0, Nat.zero_le _, rfl, (World.rowIs_made _ _ _ _).congr fun i _ => rfl, Ext.alloc _ _⟩
  case round =>
    obtain ⟨k, hk, rfl, hrow, hext⟩ := hrel
    have HW := Lib.hid hrow
    have HE := Lib.hid hext
    clear hrow hext
    by_cases hlt : k < n
    · have hlt' : (k : Int) < (n : Int) := by omega
      rcases HR.out with h0 | ⟨b, off, rfl, hc⟩
      · omega
      have hcell : wr.cell? ⟨b, off + k, none⟩ = some (.bool (bs[k]?.getD false)) := by
        have h1 := hc k hlt
        rw [HE.out.cell b _ (World.block_lt_of_cell? w ⟨b, off + k, none⟩ h1)]; exact h1
      have hcur := HW.out.cell hlt
      have hfro := HW.out.frozen k
      clear hc
      cases hb : bs[k]?.getD false
      · rw [hb] at hcell
        have HN := Lib.hid (bitF_step bs k (z := 48) (by rw [hb]; rfl) HW.out)
        have HE1 := Lib.hid (show Ext w (wr.setCell ⟨w.heap.size, k, none⟩ (.int .u8 48)) from Below.setCell HE.out (Nat.le_refl _) _)
        clear hb
        go_wp2
        go_roundw
        case rel => exact ⟨k + 1, by omega, by go_num, HN.out, HE1.out⟩
        case measure => simp [intOf]; omega
      · rw [hb] at hcell
        have HN := Lib.hid (bitF_step2 bs k (z := 49) (by rw [hb]; rfl) (.int .u8 48) HW.out)
        have HR1 := (bitF_set2 bs k HW.out (.int .u8 48) (.int .u8 48)).frozen k
        have HE1 := Lib.hid (show Ext w ((wr.setCell ⟨w.heap.size, k, none⟩ (.int .u8 48)).setCell ⟨w.heap.size, k, none⟩ (.int .u8 49)) from Below.setCell (Below.setCell HE.out (Nat.le_refl _) _) (Nat.le_refl _) _)
        have hrow2 := HW.out.set k (.int .u8 48)
        have hcur2 := hrow2.cell hlt
        have hfro2 := hrow2.frozen k
        clear hb HR1 hrow2
        go_wp2
        go_roundw
        case rel => exact ⟨k + 1, by omega, by go_num, HN.out, HE1.out⟩
        case measure => simp [intOf]; omega
    · obtain rfl : k = n := by omega
      obtain ⟨acc, hacc⟩ : ∃ acc, bitL bs = acc := ⟨_, rfl⟩
      have hal : acc.length = k := by rw [← hacc, bitL_length]; exact HZ.out
      have hcv := run_convert_bytes_back (P := Tryd.prog) wr 90 9 5 ⟨w.heap.size, 0, none⟩ k acc Tryd.underlying90 Tryd.underlying5 Tryd.underlying9 (fun j hj => by
        have h1 := HW.out.cell (i := j) (by omega)
        rw [Addr.add_lit, Nat.zero_add, h1]
        unfold bitF
        rw [if_pos (by omega)]
        subst hacc
        simp [bitL, List.getElem?_eq_getElem (show j < bs.length by rw [bitL_length] at hj; exact hj)])
      rw [hal] at hcv
      have HA := Lib.hid hacc
      clear hacc hal
      go_wp2
      go_ret
      exact ⟨by rw [HA.out]; rfl, HE.out⟩
set_option maxHeartbeats 4000000 in
theorem c_impl_SieveText (R S : Int) (a : Option Addr) (n cap : Nat) (bs : List Bool) (w : World) {rt : ByteArray} {rb : Bool} (hv : svtR R S bs = (rt, rb)) (hm : n ≤ maxLen) (h : Reads w a n (bools bs)) (hT : TabP w) :
    Calls Tryd.prog 18 #[.agg #[.int .i64 R, .int .i64 S, .slice a n cap]] w fun e w' => e = .returned (.tuple #[.string rt, .bool rb]) ∧ Ext w w' := by
  have H := Lib.hid h
  have HT := Lib.hid hT
  have HM := Lib.hid hm
  have hz := h.bool.1
  have HZ := Lib.hid hz
  have BX := Lib.hid (Box.alloc w #[.int .i64 R, .int .i64 S, .slice a n cap] 37)
  clear h hT hz hm
  have XW := Lib.hid (show Ext w (w.alloc (.cells #[.int .i64 R, .int .i64 S, .slice a n cap] 37)) from Ext.alloc _ _)
  have BW := Lib.hid BX.out
  have BA := Lib.hid ((Box.alloc_at (w.alloc (.cells #[.int .i64 R, .int .i64 S, .slice a n cap] 37)) #[.int .i64 R, .int .i64 S] 2 (b := w.heap.size + 1) (by simp)).past (.cells #[.slice (some ⟨w.heap.size + 1, 0, none⟩) 2 2] 22))
  have BL := Lib.hid (Box.alloc_at ((w.alloc (.cells #[.int .i64 R, .int .i64 S, .slice a n cap] 37)).alloc (.cells #[.int .i64 R, .int .i64 S] 2)) #[.slice (some ⟨w.heap.size + 1, 0, none⟩) 2 2] 22 (b := w.heap.size + 1 + 1) (by simp))
  have HLS := Lib.hid (lsAt1 (l0 := [R, S]) BL.out (reads_two BA.out) (by unfold maxLen; simp))
  obtain ⟨b0, b1, b2⟩ := BW.out.three
  obtain ⟨t, ht⟩ : ∃ t, lssT [[R, S]] = t := ⟨_, rfl⟩
  have HTT := Lib.hid ht
  cases hg : gridB R S bs.length
  · rw [svtR_no hg] at hv
    cases hv
    have HG := Lib.hid (show gridB R S n = false by rw [← HZ.out]; exact hg)
    cases hB : lssB [[R, S]]
    · have HB := Lib.hid hB
      clear hg hB ht
      go_enter Tryd.func18, Tryd.ntmps18
      go_wp2_with fail
      refine (c_textOfLists (w.heap.size + 1 + 1) 1 1 [[R, S]] _ _ _ (by decide) (HT.out.on (XW.out.trans (by (repeat (first | assumption | exact Ext.refl _ | (with_reducible refine Ext.stepS ?_ (by first | exact Nat.le_refl _ | (simp; done) | (simp; omega)) _) | (with_reducible refine Ext.stepN ?_ _) | (with_reducible refine Ext.stepD ?_) | (with_reducible refine Ext.stepA ?_ _)))))) HLS.out).mono ?_; rintro e w2 ⟨rfl, x2⟩
      rw [HB.out, HTT.out]
      have X2 := Lib.hid (show Ext w w2 from XW.out.trans (Ext.trans (by (repeat (first | assumption | exact Ext.refl _ | (with_reducible refine Ext.stepS ?_ (by first | exact Nat.le_refl _ | (simp; done) | (simp; omega)) _) | (with_reducible refine Ext.stepN ?_ _) | (with_reducible refine Ext.stepD ?_) | (with_reducible refine Ext.stepA ?_ _)))) x2))
      clear x2
      go_wp2
      go_ret2
      exact ⟨rfl, X2.out⟩
    · have HB := Lib.hid hB
      clear hg hB ht
      go_enter Tryd.func18, Tryd.ntmps18
      go_wp2_with fail
      refine (c_textOfLists (w.heap.size + 1 + 1) 1 1 [[R, S]] _ _ _ (by decide) (HT.out.on (XW.out.trans (by (repeat (first | assumption | exact Ext.refl _ | (with_reducible refine Ext.stepS ?_ (by first | exact Nat.le_refl _ | (simp; done) | (simp; omega)) _) | (with_reducible refine Ext.stepN ?_ _) | (with_reducible refine Ext.stepD ?_) | (with_reducible refine Ext.stepA ?_ _)))))) HLS.out).mono ?_; rintro e w2 ⟨rfl, x2⟩
      rw [HB.out, HTT.out]
      have X2 := Lib.hid (show Ext w w2 from XW.out.trans (Ext.trans (by (repeat (first | assumption | exact Ext.refl _ | (with_reducible refine Ext.stepS ?_ (by first | exact Nat.le_refl _ | (simp; done) | (simp; omega)) _) | (with_reducible refine Ext.stepN ?_ _) | (with_reducible refine Ext.stepD ?_) | (with_reducible refine Ext.stepA ?_ _)))) x2))
      obtain ⟨d0, d1, d2⟩ := (BW.out.on (Ext.trans (by (repeat (first | assumption | exact Ext.refl _ | (with_reducible refine Ext.stepS ?_ (by first | exact Nat.le_refl _ | (simp; done) | (simp; omega)) _) | (with_reducible refine Ext.stepN ?_ _) | (with_reducible refine Ext.stepD ?_) | (with_reducible refine Ext.stepA ?_ _)))) x2)).three
      clear x2 b0 b1 b2
      go_wp2_with (go_at_call 52; refine (c_impl_ValidSieve_n R S _ _ _ _ HG.out HM.out).mono ?_; rintro e w3 ⟨rfl, x3⟩; have X3 : Ext w w3 := X2.out.trans x3; clear x3)
      go_ret2
      exact ⟨rfl, X3⟩
  · rw [svtR_y hg] at hv
    cases hv
    obtain ⟨hB, hn⟩ := grid_vals hg
    have HB := Lib.hid (show lssB [[R, S]] = true by rw [lssB_one]; exact hB)
    have HG := Lib.hid (show gridB R S n = true by rw [← HZ.out]; exact hg)
    obtain ⟨D, hD⟩ : ∃ D, (textT [R, S]).data.toList = D := ⟨_, rfl⟩
    have HTD := Lib.hid (show t = ⟨D.toArray⟩ by rw [← ht, lssT_one _ hB, text_list, hD])
    have hDl : D.length ≤ 1408 := by rw [← hD]; exact textT_size hB
    obtain ⟨L, hL⟩ : ∃ L, bitL bs = L := ⟨_, rfl⟩
    have hLl : L.length ≤ 512 := by rw [← hL, bitL_length]; exact hn
    obtain ⟨M, hM⟩ : ∃ M, D ++ [59] = M := ⟨_, rfl⟩
    have hMl : M.length ≤ 1409 := by rw [← hM]; simp; omega
    obtain ⟨N, hN⟩ : ∃ N, M ++ L = N := ⟨_, rfl⟩
    have HV := Lib.hid (show svT R S bs = ⟨N.toArray⟩ by unfold svT; rw [hD, hL, ← hN, ← hM]; simp)
    have e1 : ∀ w' : World, (Op.stringOp .add ⟨D.toArray⟩ ⟨#[59]⟩).run Tryd.prog w' = .ok (.string ⟨M.toArray⟩) w' := fun w' => by
      rw [← hM]; exact run_string_add_lists w' D [59] (by omega) (by simp)
    have e2 : ∀ w' : World, (Op.stringOp .add ⟨M.toArray⟩ ⟨L.toArray⟩).run Tryd.prog w' = .ok (.string ⟨N.toArray⟩) w' := fun w' => by
      rw [← hN]; exact run_string_add_lists w' M L (by omega) (by omega)
    have HN := Lib.hid (show n ≤ 512 by rw [← HZ.out]; exact hn)
    have HL := Lib.hid hL
    rw [HV.out]
    clear hg hB ht hD hL hM hN hDl hLl hMl hn
    go_enter Tryd.func18, Tryd.ntmps18
    go_wp2_with fail
    refine (c_textOfLists (w.heap.size + 1 + 1) 1 1 [[R, S]] _ _ _ (by decide) (HT.out.on (XW.out.trans (by (repeat (first | assumption | exact Ext.refl _ | (with_reducible refine Ext.stepS ?_ (by first | exact Nat.le_refl _ | (simp; done) | (simp; omega)) _) | (with_reducible refine Ext.stepN ?_ _) | (with_reducible refine Ext.stepD ?_) | (with_reducible refine Ext.stepA ?_ _)))))) HLS.out).mono ?_; rintro e w2 ⟨rfl, x2⟩
    rw [HB.out, HTT.out, HTD.out]
    have X2 := Lib.hid (show Ext w w2 from XW.out.trans (Ext.trans (by (repeat (first | assumption | exact Ext.refl _ | (with_reducible refine Ext.stepS ?_ (by first | exact Nat.le_refl _ | (simp; done) | (simp; omega)) _) | (with_reducible refine Ext.stepN ?_ _) | (with_reducible refine Ext.stepD ?_) | (with_reducible refine Ext.stepA ?_ _)))) x2))
    obtain ⟨d0, d1, d2⟩ := (BW.out.on (Ext.trans (by (repeat (first | assumption | exact Ext.refl _ | (with_reducible refine Ext.stepS ?_ (by first | exact Nat.le_refl _ | (simp; done) | (simp; omega)) _) | (with_reducible refine Ext.stepN ?_ _) | (with_reducible refine Ext.stepD ?_) | (with_reducible refine Ext.stepA ?_ _)))) x2)).three
    have BW2 := Lib.hid (BW.out.on (Ext.trans (by (repeat (first | assumption | exact Ext.refl _ | (with_reducible refine Ext.stepS ?_ (by first | exact Nat.le_refl _ | (simp; done) | (simp; omega)) _) | (with_reducible refine Ext.stepN ?_ _) | (with_reducible refine Ext.stepD ?_) | (with_reducible refine Ext.stepA ?_ _)))) x2))
    clear x2 b0 b1 b2
    go_wp2_with (go_at_call 52; refine (c_impl_ValidSieve_n R S _ _ _ _ HG.out HM.out).mono ?_; rintro e w3 ⟨rfl, x3⟩; have X3 : Ext w w3 := X2.out.trans x3; obtain ⟨g0, g1, g2⟩ := (BW2.out.on x3).three; clear x3 d0 d1 d2)
    refine (c_textOfBits a n cap bs _ HN.out (H.out.on X3)).mono ?_; rintro e w4 ⟨rfl, x4⟩
    rw [HL.out]
    have X4 : Ext w w4 := X3.trans x4
    clear x4 X3
    go_wp2
    go_ret2
    exact ⟨rfl, X4⟩
set_option maxRecDepth 100000 in
set_option maxHeartbeats 4000000 in
theorem c_spec_l08Sieve (b : Nat) (R S : Int) (a : Option Addr) (n cap : Nat) (bs : List Bool) (w : World) {T : ByteArray} (hg : gridB R S bs.length = true) (hT : svT R S bs = T) (hb : Box w b 37 #[.int .i64 R, .int .i64 S, .slice a n cap]) (h : Reads w a n (bools bs)) :
    Calls Tryd.prog 50 #[.pointer (some ⟨b, 0, none⟩)] w fun e w' => e = .returned (.string T) ∧ Ext w w' := by
  obtain ⟨hz, hr⟩ := h.bool
  have HR := Lib.hid hr
  have HZ := Lib.hid hz
  have BX := Lib.hid hb
  obtain ⟨hB, hn⟩ := grid_vals hg
  have HB := Lib.hid hB
  obtain ⟨D, hD⟩ : ∃ D, (textT [R, S]).data.toList = D := ⟨_, rfl⟩
  have HTD := Lib.hid (show textT [R, S] = ⟨D.toArray⟩ by rw [text_list, hD])
  have hDl : D.length ≤ 1408 := by rw [← hD]; exact textT_size hB
  obtain ⟨M, hM⟩ : ∃ M, D ++ [59] = M := ⟨_, rfl⟩
  have hMl : M.length ≤ 1409 := by rw [← hM]; simp; omega
  have HML := Lib.hid hMl
  have HV := Lib.hid (show T = ⟨(M ++ bitL bs).toArray⟩ by rw [← hT]; unfold svT; rw [hD, ← hM]; simp)
  have e1 : ∀ w' : World, (Op.stringOp .add ⟨D.toArray⟩ ⟨#[59]⟩).run Tryd.prog w' = .ok (.string ⟨M.toArray⟩) w' := fun w' => by
    rw [← hM]; exact run_string_add_lists w' D [59] (by omega) (by simp)
  have hnI : (n : Int) ≤ 512 := by omega
  obtain ⟨b0, b1, b2⟩ := BX.out.three
  clear hg hT hb h hr hz hB hD hM hDl hMl
  go_enter Tryd.func50, Tryd.ntmps50
  go_upto_region 1 with fail
  go_cut [3] (fun s3 wx => s3 = .string ⟨M.toArray⟩ ∧ Ext w wx)
  case first =>
    go_region_with (go_at_call 77; refine (c_spec_l01Text _ 2 2 [R, S] _ HB.out (reads_two (by first | exact Box.alloc _ _ _))).mono ?_; rintro e w1 ⟨rfl, x1⟩; rw [HTD.out]; have EA : Ext w w1 := Ext.trans (by (repeat (first | assumption | exact Ext.refl _ | (with_reducible refine Ext.stepS ?_ (by first | exact Nat.le_refl _ | (simp; done) | (simp; omega)) _) | (with_reducible refine Ext.stepN ?_ _) | (with_reducible refine Ext.stepD ?_) | (with_reducible refine Ext.stepA ?_ _)))) x1; clear x1)
    all_goals (go_wp2; go_meet; exact ⟨rfl, EA⟩)
  case rest =>
    obtain ⟨rfl, xc⟩ := hcut
    have XC := Lib.hid xc
    clear xc b0 b1 b2 e1
    go_wp2
    go_loopw [3, 4] (fun s i wr => ∃ k : Nat, k ≤ n ∧ i = .int .i64 k ∧ s = .string ⟨(M ++ bitL (bs.take k)).toArray⟩ ∧ Ext w wr) (fun _ i _ => n - (intOf i).toNat)
    case atStart => exact ⟨0, Nat.zero_le _, rfl, by simp [bitL], XC.out⟩
    case round =>
      obtain ⟨k, hk, rfl, rfl, hext⟩ := hrel
      have HE := Lib.hid hext
      clear hext
      obtain ⟨b0, b1, b2⟩ := (BX.out.on HE.out).three
      by_cases hlt : k < n
      · have hlt' : (k : Int) < (n : Int) := by omega
        rcases HR.out with h0 | ⟨ab, off, rfl, hc⟩
        · omega
        have hcell : wr.cell? ⟨ab, off + k, none⟩ = some (.bool (bs[k]?.getD false)) := by
          have h1 := hc k hlt
          rw [HE.out.cell ab _ (World.block_lt_of_cell? w ⟨ab, off + k, none⟩ h1)]; exact h1
        have hsn := bits_snoc (bs := bs) (k := k) (by rw [HZ.out]; exact hlt)
        have hbl : (bitL (bs.take k)).length ≤ 512 := by rw [bitL_length, List.length_take]; omega
        obtain ⟨P, hP⟩ : ∃ P, M ++ bitL (bs.take k) = P := ⟨_, rfl⟩
        have hPl : P.length ≤ 2000 := by rw [← hP, List.length_append]; have := HML.out; omega
        rw [hP]
        clear hc
        cases hb : bs[k]?.getD false
        all_goals
          rw [hb] at hcell hsn
          obtain ⟨Q, hQ⟩ : ∃ Q, P ++ [bitC (bs[k]?.getD false)] = Q := ⟨_, rfl⟩
          rw [hb] at hQ
          have HQ := Lib.hid (show M ++ bitL (bs.take (k + 1)) = Q by rw [hsn, ← List.append_assoc, hP, hQ])
          have ea : ∀ w' : World, (Op.stringOp .add ⟨P.toArray⟩ ⟨#[48]⟩).run Tryd.prog w' = .ok (.string ⟨(P ++ [48]).toArray⟩) w' := fun w' => run_string_add_lists w' P [48] (by omega) (by simp)
          have eb : ∀ w' : World, (Op.stringOp .add ⟨P.toArray⟩ ⟨#[49]⟩).run Tryd.prog w' = .ok (.string ⟨(P ++ [49]).toArray⟩) w' := fun w' => run_string_add_lists w' P [49] (by omega) (by simp)
          have HQ2 := Lib.hid hQ
          clear hb hsn hbl hP hPl hQ
          go_wp2
          go_roundw
          case rel => exact ⟨k + 1, by omega, by go_num, by rw [HQ.out, ← HQ2.out]; rfl, HE.out⟩
          case measure => simp [intOf]; omega
      · obtain rfl : k = n := by omega
        go_wp2
        go_ret
        exact ⟨by rw [HV.out, ← HZ.out, List.take_length]; rfl, HE.out⟩
set_option maxHeartbeats 2000000 in
theorem c_spec_SieveText (R S : Int) (a : Option Addr) (n cap : Nat) (bs : List Bool) (w : World) {rt : ByteArray} {rb : Bool} (hv : svtR R S bs = (rt, rb)) (hm : n ≤ maxLen) (h : Reads w a n (bools bs)) :
    Calls Tryd.prog 16 #[.agg #[.int .i64 R, .int .i64 S, .slice a n cap]] w fun e w' => e = .returned (.tuple #[.string rt, .bool rb]) ∧ Ext w w' := by
  have H := Lib.hid h
  have HM := Lib.hid hm
  have hz := h.bool.1
  have HZ := Lib.hid hz
  have BX := Lib.hid (Box.alloc w #[.int .i64 R, .int .i64 S, .slice a n cap] 37)
  clear h hz
  cases hg : gridB R S bs.length
  · rw [svtR_no hg] at hv
    cases hv
    have HG := Lib.hid (show gridB R S n = false by rw [← HZ.out]; exact hg)
    clear hg
    go_enter Tryd.func16, Tryd.ntmps16
    go_wp2_with (go_at_call 49; refine (c_spec_l04Is _ R S a n cap _ HG.out BX.out HM.out).mono ?_; rintro e u1 ⟨rfl, q, rfl⟩)
    go_ret2
    exact ⟨rfl, by (repeat (first | assumption | exact Ext.refl _ | (with_reducible refine Ext.stepS ?_ (by first | exact Nat.le_refl _ | (simp; done) | (simp; omega)) _) | (with_reducible refine Ext.stepN ?_ _) | (with_reducible refine Ext.stepD ?_) | (with_reducible refine Ext.stepA ?_ _)))⟩
  · rw [svtR_y hg] at hv
    cases hv
    have HG := Lib.hid (show gridB R S n = true by rw [← HZ.out]; exact hg)
    have HG2 := Lib.hid hg
    obtain ⟨T, hT⟩ : ∃ T, svT R S bs = T := ⟨_, rfl⟩
    have HTT := Lib.hid hT
    rw [hT]
    clear hg hT
    go_enter Tryd.func16, Tryd.ntmps16
    go_wp2_with (first | (go_at_call 49; refine (c_spec_l04Is _ R S a n cap _ HG.out BX.out HM.out).mono ?_; rintro e u1 ⟨rfl, q, rfl⟩) | (go_at_call 50; refine (c_spec_l08Sieve _ R S a n cap bs _ HG2.out HTT.out (BX.out.on (by (repeat (first | assumption | exact Ext.refl _ | (with_reducible refine Ext.stepS ?_ (by first | exact Nat.le_refl _ | (simp; done) | (simp; omega)) _) | (with_reducible refine Ext.stepN ?_ _) | (with_reducible refine Ext.stepD ?_) | (with_reducible refine Ext.stepA ?_ _))))) (H.out.on (by (repeat (first | assumption | exact Ext.refl _ | (with_reducible refine Ext.stepS ?_ (by first | exact Nat.le_refl _ | (simp; done) | (simp; omega)) _) | (with_reducible refine Ext.stepN ?_ _) | (with_reducible refine Ext.stepD ?_) | (with_reducible refine Ext.stepA ?_ _)))))).mono ?_; rintro e w1 ⟨rfl, x1⟩; have X1 : Ext w w1 := Ext.trans (by (repeat (first | assumption | exact Ext.refl _ | (with_reducible refine Ext.stepS ?_ (by first | exact Nat.le_refl _ | (simp; done) | (simp; omega)) _) | (with_reducible refine Ext.stepN ?_ _) | (with_reducible refine Ext.stepD ?_) | (with_reducible refine Ext.stepA ?_ _)))) x1; clear x1))
    go_ret2
    exact ⟨rfl, X1⟩
end Go.Proofs.YtgejfeedcphfkaaDoor
