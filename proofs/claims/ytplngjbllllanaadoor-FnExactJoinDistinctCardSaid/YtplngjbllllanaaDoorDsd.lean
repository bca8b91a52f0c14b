/- DistinctSample: both sides. -/
import Derived.Test.YtplngjbllllanaaDoorDsc
import Derived.Test.YtplngjbllllanaaDoorRow
import Derived.Test.YtplngjbllllanaaDoorMul
namespace Go.Proofs.YtplngjbllllanaaDoor
open Go.ChangeShapes Go.WideShapes Go.ChangeAt Go.RowKit
set_option linter.unusedVariables false
theorem keys_all {zs : List Int} (h : keysB zs = true) : ∀ x ∈ zs, keyB x = true := by
  unfold keysB at h
  simp only [Bool.and_eq_true, List.all_eq_true] at h
  exact h.2
theorem keys_get {zs : List Int} (h : ∀ x ∈ zs, keyB x = true) : ∀ i, i < zs.length → keyB (getI zs i) = true := fun i hi => by
  have e : getI zs i = zs[i] := by unfold getI; rw [List.getElem?_eq_getElem hi]; rfl
  rw [e]; exact h _ (List.getElem_mem hi)
/-- what the law asks -/
def dstR (zs : List Int) (room salt : Int) : Int × List Int × Bool :=
  if decide (zs.length ≤ 128) && (keysB zs && (inB 1 room 128 && keyB salt)) then disK room salt zs 33 else (0, [], false)
theorem dstR_no {zs : List Int} {room salt : Int} (h : (decide (zs.length ≤ 128) && (keysB zs && (inB 1 room 128 && keyB salt))) = false) : dstR zs room salt = (0, [], false) := by unfold dstR; rw [h]; rfl
theorem dstR_yes {zs : List Int} {room salt : Int} (h : (decide (zs.length ≤ 128) && (keysB zs && (inB 1 room 128 && keyB salt))) = true) : dstR zs room salt = disK room salt zs 33 := by unfold dstR; rw [h]; rfl
theorem dstR_le {zs : List Int} {room salt : Int} {x : Int} {xs : List Int} {b : Bool} (h : dstR zs room salt = (x, xs, b)) : xs.length ≤ 1048576 := by
  cases hb : (decide (zs.length ≤ 128) && (keysB zs && (inB 1 room 128 && keyB salt)))
  · rw [dstR_no hb] at h; cases h; exact Nat.zero_le _
  · rw [dstR_yes hb] at h
    have := disK_le (room := room) (salt := salt) (zs := zs) 33
    rw [h] at this
    have : xs.length ≤ 256 := this
    omega
theorem c_impl_isStreamSize_d (n : Int) (w : World) {b : Bool} (h : inB 1 n 128 = b) : Calls Tryd.prog 18 #[.int .i64 n] w fun e w' => e = .returned (.bool b) ∧ w = w' := by
  unfold inB at h
  by_cases h1 : 1 ≤ n
  · by_cases h2 : n ≤ 128
    · have H := Lib.hid (show b = true by rw [← h]; exact decide_eq_true ⟨h1, h2⟩)
      clear h
      go_enter Tryd.func18, Tryd.ntmps18
      go_wp2
      go_ret
      exact ⟨retB_d H.out.symm, rfl⟩
    · have H := Lib.hid (show b = false by rw [← h]; exact decide_eq_false (by omega))
      have h3 : 128 < n := by omega
      clear h
      go_enter Tryd.func18, Tryd.ntmps18
      go_wp2
      go_ret
      exact ⟨retB_d H.out.symm, rfl⟩
  · have H := Lib.hid (show b = false by rw [← h]; exact decide_eq_false (by omega))
    have h3 : n < 1 := by omega
    clear h
    go_enter Tryd.func18, Tryd.ntmps18
    go_wp2
    go_ret
    exact ⟨retB_d H.out.symm, rfl⟩
theorem c_impl_AreKeys_d (a : Option Addr) (n cap : Nat) (zs : List Int) (w : World) {r : Bool} (hr : keysB zs = r) (hm : n ≤ maxLen) (h : Reads w a n (ints zs)) : Calls Tryd.prog 17 #[.slice a n cap] w fun e w' => e = .returned (.bool r) ∧ w = w' := by
  subst hr; exact (c_impl_AreKeys a n cap zs w hm h).mono (by rintro e w' ⟨rfl, hw⟩; exact ⟨rfl, by first | exact hw | exact hw.symm⟩)
theorem c_spec_l02Keys_d (a : Option Addr) (n cap : Nat) (zs : List Int) (w : World) {r : Bool} (hr : keysB zs = r) (hm : n ≤ maxLen) (h : Reads w a n (ints zs)) : Calls Tryd.prog 13 #[.slice a n cap] w fun e w' => e = .returned (.bool r) ∧ w = w' := by
  subst hr; exact (c_spec_l02Keys a n cap zs w hm h).mono (by rintro e w' ⟨rfl, hw⟩; exact ⟨rfl, by first | exact hw | exact hw.symm⟩)
theorem c_spec_l06Room_d (room : Int) (w : World) {r : Bool} (h : inB 1 room 128 = r) : Calls Tryd.prog 14 #[.int .i64 room] w fun e w' => e = .returned (.bool r) ∧ w = w' := by
  have H := Lib.hid h
  clear h
  go_enter Tryd.func14, Tryd.ntmps14
  go_wp2_with (go_at_call 22; refine (c_l00In_k _ _ _ _ H.out).mono ?_; rintro e w' ⟨rfl, rfl⟩)
  go_ret
  exact ⟨rfl, rfl⟩
set_option maxRecDepth 100000 in
set_option maxHeartbeats 4000000 in
theorem c_sampleFrom (F : Nat) (a : Option Addr) (n cap : Nat) (zs : List Int) (room salt : Int) (w : World) (hn : n ≤ 256) (hF : F ≤ 33) (hk : ∀ x ∈ zs, keyB x = true) (hs : keyB salt = true) (h : Reads w a n (ints zs)) (hT : TabW w)
    {x : Int} {xs : List Int} {b : Bool} (hv : disK room salt zs (33 - F) = (x, xs, b)) :
    Calls Tryd.prog 20 #[.int .i64 (F : Int), .slice a n cap, .int .i64 room, .int .i64 salt] w (RetISB 2 x xs b w) := by
  have hz := h.int.1
  have HZ := Lib.hid hz
  have H := Lib.hid h
  have HT := Lib.hid hT
  have HK := Lib.hid hk
  have HS := Lib.hid hs
  have HV := Lib.hid hv
  have HN := Lib.hid (show n ≤ 1048576 by omega)
  have h0 : 0 < w.heap.size := World.block_lt_of_cell? w ⟨0, 0, none⟩ (hT 0 (by decide))
  have BL0 := Lib.hid ((Box.alloc w #[.int .i64 (F : Int)] 2).past (.cells #[.int .i64 salt] 2))
  have BS0 := Lib.hid (Box.alloc_at (w.alloc (.cells #[.int .i64 (F : Int)] 2)) #[.int .i64 salt] 2 (b := w.heap.size + 1) (by simp))
  have X0 := Lib.hid (((Ext.refl w).stepA (.cells #[.int .i64 (F : Int)] 2)).stepA (.cells #[.int .i64 salt] 2))
  clear h hz hT hk hs hv
  go_enter Tryd.func20, Tryd.ntmps20
  go_wp2_with (go_at_call 29; refine (c_Values _ _ _ _).mono ?_; rintro e w1 ⟨rfl, hw1⟩; have HW1 := Lib.hid hw1; clear hw1)
  have XE1 := Lib.hid (show Ext _ w1 by rw [HW1.out]; exact Ext.alloc ((w.alloc (.cells #[.int .i64 (F : Int)] 2)).alloc (.cells #[.int .i64 salt] 2)) _)
  have HBV := Lib.hid (show Box w1 (w.heap.size + 1 + 1) 22 #[.slice a n cap] by rw [HW1.out]; exact Box.alloc_at _ _ _ (by simp))
  have X1 := Lib.hid (X0.out.trans XE1.out)
  have BL1 := Lib.hid (BL0.out.on XE1.out)
  have BS1 := Lib.hid (BS0.out.on XE1.out)
  refine (c_SortedValues _ _ n cap zs _ HN.out (H.out.on X1.out) (HBV.out.cell 0)).mono ?_; rintro e w2 ⟨a2, c2, rfl, o2, x2⟩
  have X2 := Lib.hid (X1.out.trans x2)
  have BL2 := Lib.hid (BL1.out.on x2)
  have BS2 := Lib.hid (BS1.out.on x2)
  have O2 := Lib.hid o2
  have hs1 : w.heap.size + 2 ≤ w1.heap.size := by have := HBV.out.lt; omega
  clear o2 x2
  go_wp2_with fail
  refine (c_Compact _ _ a2 n c2 (sortZ zs) _ HN.out O2.out).mono ?_; rintro e w3 ⟨rfl, o3, t3⟩
  have X3 := Lib.hid (t3.ext X2.out (by omega))
  have BL3 := Lib.hid (BL2.out.beside t3 (by omega))
  have BS3 := Lib.hid (BS2.out.beside t3 (by omega))
  have O3 := Lib.hid o3
  have SZ3 := Lib.hid t3.size
  clear o3 t3
  go_wp2
  go_loopg [11] 33 (fun gg s wr => ∃ (L : Nat) (M : List Int), L ≤ 33 ∧ 33 - L ≤ gg ∧ s = .slice a2 M.length c2 ∧ Own 2 wr w1.heap.size w2.heap.size a2 M.length c2 (ints M) ∧ M.length ≤ n ∧ (∀ x ∈ M, keyB x = true) ∧ M.filter (zerP salt (L : Int)) = (difZ zs).filter (zerP salt (L : Int)) ∧ Box wr w.heap.size 2 #[.int .i64 (L : Int)] ∧ Box wr (w.heap.size + 1) 2 #[.int .i64 salt] ∧ disK room salt zs (33 - L) = (x, xs, b) ∧ Ext w wr ∧ w2.heap.size ≤ wr.heap.size)
  case atStart =>
    refine ⟨F, difZ zs, hF, by omega, rfl, O3.out, ?_, ?_, rfl, BL3.out, BS3.out, HV.out, X3.out, SZ3.out⟩
    · have := difZ_len zs; have := HZ.out; omega
    · intro x hx
      exact HK.out x ((difZ_mem x).1 hx)
  case round =>
    obtain ⟨L, M, hL, hgg, rfl, hO, hMn, hMk, hMf, hBL, hBS, hd, hX, hSZ⟩ := hrel
    have O4 := Lib.hid hO
    have HMK := Lib.hid hMk
    have HMF := Lib.hid hMf
    have BL4 := Lib.hid hBL
    have BS4 := Lib.hid hBS
    have HD := Lib.hid hd
    have X4 := Lib.hid hX
    have bl := BL4.out.cell 0
    have bs := BS4.out.cell 0
    have bf := BL4.out.frozen 0
    clear hO hMk hMf hBL hBS hd hX
    by_cases hlt : L ≤ 32
    · have HLV := Lib.hid (show inB 0 (L : Int) 32 = true from inB_is.2 ⟨by omega, by omega⟩)
      have HYS := Lib.hid (disK_yes (room := room) (salt := salt) (zs := zs) hlt)
      have HNO := Lib.hid (disK_no (room := room) (salt := salt) (zs := zs) hlt)
      obtain ⟨dl, hdl⟩ : ∃ dl, M.filter (zerP salt (L : Int)) = dl := ⟨_, rfl⟩
      have HDL := Lib.hid hdl
      have hde : disL salt (L : Int) zs = dl := by rw [disL_eq (by have := HZ.out; omega), ← HMF.out, hdl]
      rw [hde] at HYS HNO
      have hdn : dl.length ≤ n := by rw [← hdl]; have := List.length_filter_le (zerP salt (L : Int)) M; omega
      have HDK := Lib.hid (show ∀ x ∈ dl, keyB x = true from fun x hx => by rw [← hdl] at hx; exact HMK.out x (List.mem_filter.1 hx).1)
      have HDF := Lib.hid (show dl.filter (zerP salt ((L : Int) + 1)) = (difZ zs).filter (zerP salt ((L : Int) + 1)) by rw [← hdl, HMF.out, filter_next])
      have CD := Lib.hid (c_Delete w1.heap.size w2.heap.size (w.heap.size + 1) w.heap.size a2 M.length c2 M salt (L : Int) wr (by omega) HMK.out HS.out bs bl (by omega) (by omega) (by omega) (HT.out.on X4.out) O4.out)
      rw [hdl] at CD
      clear hdl hde
      by_cases hr : (dl.length : Int) ≤ room
      · have HXX := Lib.hid (show ((L : Int), dl, true) = (x, xs, b) by rw [← HYS.out hr]; exact HD.out)
        go_wp2_with (go_at_call 30; refine (c_impl_isLevel _ _ HLV.out).mono ?_; rintro e w' ⟨rfl, rfl⟩)
        refine CD.out.mono ?_; rintro e w5 ⟨rfl, o5, t5⟩
        have O5 := Lib.hid o5
        have T5 := Lib.hid t5
        have bl5 := (BL4.out.beside t5 (by omega)).cell 0
        clear o5 t5 bl bs bf
        go_wp2
        go_ret3
        have hxx := HXX.out
        simp only [Prod.mk.injEq] at hxx
        obtain ⟨rfl, rfl, rfl⟩ := hxx
        exact ⟨a2, c2, rfl, O5.out.wide (by omega) (by have := T5.out.size; omega), T5.out.ext X4.out (by omega)⟩
      · have HNN := Lib.hid (show disK room salt zs (33 - (L + 1)) = (x, xs, b) by rw [← HNO.out hr]; exact HD.out)
        go_wp2_with (go_at_call 30; refine (c_impl_isLevel _ _ HLV.out).mono ?_; rintro e w' ⟨rfl, rfl⟩)
        refine CD.out.mono ?_; rintro e w5 ⟨rfl, o5, t5⟩
        have O5 := Lib.hid o5
        have T5 := Lib.hid t5
        have BL5 := Lib.hid (BL4.out.beside t5 (by omega))
        have BS5 := Lib.hid (BS4.out.beside t5 (by omega))
        have bl5 := BL5.out.cell 0
        have bf5 := BL5.out.frozen 0
        clear o5 t5 bl bs bf
        go_wp2
        go_roundg (33 - (L + 1))
        case measure => omega
        case rel =>
          have TS : Touch w.heap.size (w.heap.size + 1) w5 (w5.setCell ⟨w.heap.size, 0, none⟩ (.int .i64 ((L : Int) + 1))) := Touch.setCell _ (a := ⟨w.heap.size, 0, none⟩) (Nat.le_refl _) (Nat.lt_succ_self _) _
          refine ⟨L + 1, dl, by omega, Nat.le_refl _, rfl, O5.out.beside TS (by omega), hdn, HDK.out, ?_, ?_, BS5.out.beside TS (by omega), HNN.out, TS.ext (T5.out.ext X4.out (by omega)) (Nat.le_refl _), ?_⟩
          · exact HDF.out
          · exact BL5.out.putK 0 (.int .i64 ((L : Int) + 1))
          · have h1 := T5.out.size
            have h2 := TS.size
            omega
    · have hL3 : L = 33 := by omega
      subst hL3
      have HLV := Lib.hid (show inB 0 ((33 : Nat) : Int) 32 = false by decide)
      have hxx := HD.out
      rw [Nat.sub_self, disK_0] at hxx
      simp only [Prod.mk.injEq] at hxx
      obtain ⟨rfl, rfl, rfl⟩ := hxx
      clear HD HV
      go_wp2_with (go_at_call 30; refine (c_impl_isLevel _ _ HLV.out).mono ?_; rintro e w' ⟨rfl, rfl⟩)
      go_ret3
      exact RetISB.nil _ _ _ X4.out
set_option maxHeartbeats 1000000 in
theorem c_impl_DistinctSample (a : Option Addr) (n cap : Nat) (zs : List Int) (room salt : Int) (w : World) {x : Int} {xs : List Int} {b : Bool} (hv : dstR zs room salt = (x, xs, b)) (hm : n ≤ 1048576) (h : Reads w a n (ints zs)) (hT : TabW w) :
    Calls Tryd.prog 7 #[.slice a n cap, .int .i64 room, .int .i64 salt] w (RetISB 2 x xs b w) := by
  have hz := h.int.1
  have HZ := Lib.hid hz
  have H := Lib.hid h
  have HT := Lib.hid hT
  have HM := Lib.hid (show n ≤ maxLen by unfold maxLen; omega)
  clear h hT
  by_cases hl : n ≤ 128
  · have hlI : ¬ (128 : Int) < (n : Int) := by omega
    have hd : decide (zs.length ≤ 128) = true := decide_eq_true (by omega)
    cases hk : keysB zs
    · rw [dstR_no (by rw [hd, hk]; rfl)] at hv
      cases hv
      have HK := Lib.hid hk
      clear hk hd hz
      go_enter Tryd.func7, Tryd.ntmps7
      go_wp2_with (go_at_call 17; refine (c_impl_AreKeys_d _ _ _ zs _ HK.out HM.out H.out).mono ?_; rintro e w' ⟨rfl, rfl⟩)
      go_ret3
      exact RetISB.nil _ _ _ (Ext.refl _)
    cases hr : inB 1 room 128
    · rw [dstR_no (by rw [hd, hk, hr]; rfl)] at hv
      cases hv
      have HK := Lib.hid hk
      have HR := Lib.hid hr
      clear hk hd hz hr
      go_enter Tryd.func7, Tryd.ntmps7
      go_wp2_with (first | (go_at_call 17; refine (c_impl_AreKeys_d _ _ _ zs _ HK.out HM.out H.out).mono ?_; rintro e w' ⟨rfl, rfl⟩) | (go_at_call 18; refine (c_impl_isStreamSize_d _ _ HR.out).mono ?_; rintro e w' ⟨rfl, rfl⟩))
      go_ret3
      exact RetISB.nil _ _ _ (Ext.refl _)
    cases hs : keyB salt
    · rw [dstR_no (by rw [hd, hk, hr, hs]; rfl)] at hv
      cases hv
      have HK := Lib.hid hk
      have HR := Lib.hid hr
      have HS := Lib.hid hs
      clear hk hd hz hr hs
      go_enter Tryd.func7, Tryd.ntmps7
      go_wp2_with (first | (go_at_call 17; refine (c_impl_AreKeys_d _ _ _ zs _ HK.out HM.out H.out).mono ?_; rintro e w' ⟨rfl, rfl⟩) | (go_at_call 18; refine (c_impl_isStreamSize_d _ _ HR.out).mono ?_; rintro e w' ⟨rfl, rfl⟩) | (go_at_call 19; refine (c_impl_IsKey_at salt _ HS.out).mono ?_; rintro e w' ⟨rfl, rfl⟩))
      go_ret3
      exact RetISB.nil _ _ _ (Ext.refl _)
    rw [dstR_yes (by rw [hd, hk, hr, hs]; rfl)] at hv
    have HV := Lib.hid hv
    have HK := Lib.hid hk
    have HR := Lib.hid hr
    have HS := Lib.hid hs
    clear hk hd hz hr hs hv
    go_enter Tryd.func7, Tryd.ntmps7
    go_wp2_with (first | (go_at_call 17; refine (c_impl_AreKeys_d _ _ _ zs _ HK.out HM.out H.out).mono ?_; rintro e w' ⟨rfl, rfl⟩) | (go_at_call 18; refine (c_impl_isStreamSize_d _ _ HR.out).mono ?_; rintro e w' ⟨rfl, rfl⟩) | (go_at_call 19; refine (c_impl_IsKey_at salt _ HS.out).mono ?_; rintro e w' ⟨rfl, rfl⟩))
    refine (c_sampleFrom 0 _ n cap zs room salt _ (by omega) (by omega) (keys_all HK.out) HS.out H.out HT.out HV.out).mono ?_; rintro e w2 ⟨a2, c2, rfl, o2, x2⟩
    have O2 := Lib.hid o2
    have X2 := Lib.hid x2
    clear o2 x2
    go_wp2
    go_ret3
    exact ⟨a2, c2, rfl, O2.out, X2.out⟩
  · have hlI : (128 : Int) < (n : Int) := by omega
    rw [dstR_no (by rw [decide_eq_false (show ¬ zs.length ≤ 128 by omega)]; rfl)] at hv
    cases hv
    clear hz
    go_enter Tryd.func7, Tryd.ntmps7
    go_wp2
    go_ret3
    exact RetISB.nil _ _ _ (Ext.refl _)
set_option maxHeartbeats 1000000 in
theorem c_spec_DistinctSample (a : Option Addr) (n cap : Nat) (zs : List Int) (room salt : Int) (w : World) {x : Int} {xs : List Int} {b : Bool} (hv : dstR zs room salt = (x, xs, b)) (hm : n ≤ 1048576) (h : Reads w a n (ints zs)) (hT : TabW w) :
    Calls Tryd.prog 5 #[.slice a n cap, .int .i64 room, .int .i64 salt] w (RetISB 2 x xs b w) := by
  have hz := h.int.1
  have HZ := Lib.hid hz
  have H := Lib.hid h
  have HT := Lib.hid hT
  have HM := Lib.hid (show n ≤ maxLen by unfold maxLen; omega)
  clear h hT
  by_cases hl : n ≤ 128
  · have hlI : ¬ (128 : Int) < (n : Int) := by omega
    have hd : decide (zs.length ≤ 128) = true := decide_eq_true (by omega)
    cases hk : keysB zs
    · rw [dstR_no (by rw [hd, hk]; rfl)] at hv
      cases hv
      have HK := Lib.hid hk
      clear hk hd hz
      go_enter Tryd.func5, Tryd.ntmps5
      go_wp2_with (go_at_call 13; refine (c_spec_l02Keys_d _ _ _ zs _ HK.out HM.out H.out).mono ?_; rintro e w' ⟨rfl, rfl⟩)
      go_ret3
      exact RetISB.nil _ _ _ (Ext.refl _)
    cases hr : inB 1 room 128
    · rw [dstR_no (by rw [hd, hk, hr]; rfl)] at hv
      cases hv
      have HK := Lib.hid hk
      have HR := Lib.hid hr
      clear hk hd hz hr
      go_enter Tryd.func5, Tryd.ntmps5
      go_wp2_with (first | (go_at_call 13; refine (c_spec_l02Keys_d _ _ _ zs _ HK.out HM.out H.out).mono ?_; rintro e w' ⟨rfl, rfl⟩) | (go_at_call 14; refine (c_spec_l06Room_d _ _ HR.out).mono ?_; rintro e w' ⟨rfl, rfl⟩))
      go_ret3
      exact RetISB.nil _ _ _ (Ext.refl _)
    cases hs : keyB salt
    · rw [dstR_no (by rw [hd, hk, hr, hs]; rfl)] at hv
      cases hv
      have HK := Lib.hid hk
      have HR := Lib.hid hr
      have HS := Lib.hid hs
      clear hk hd hz hr hs
      go_enter Tryd.func5, Tryd.ntmps5
      go_wp2_with (first | (go_at_call 13; refine (c_spec_l02Keys_d _ _ _ zs _ HK.out HM.out H.out).mono ?_; rintro e w' ⟨rfl, rfl⟩) | (go_at_call 14; refine (c_spec_l06Room_d _ _ HR.out).mono ?_; rintro e w' ⟨rfl, rfl⟩) | (go_at_call 15; refine (c_spec_l02Key_at salt _ HS.out).mono ?_; rintro e w' ⟨rfl, rfl⟩))
      go_ret3
      exact RetISB.nil _ _ _ (Ext.refl _)
    rw [dstR_yes (by rw [hd, hk, hr, hs]; rfl)] at hv
    have HV := Lib.hid hv
    have HK := Lib.hid hk
    have HR := Lib.hid hr
    have HS := Lib.hid hs
    clear hk hd hz hr hs hv
    go_enter Tryd.func5, Tryd.ntmps5
    go_wp2_with (first | (go_at_call 13; refine (c_spec_l02Keys_d _ _ _ zs _ HK.out HM.out H.out).mono ?_; rintro e w' ⟨rfl, rfl⟩) | (go_at_call 14; refine (c_spec_l06Room_d _ _ HR.out).mono ?_; rintro e w' ⟨rfl, rfl⟩) | (go_at_call 15; refine (c_spec_l02Key_at salt _ HS.out).mono ?_; rintro e w' ⟨rfl, rfl⟩))
    refine (c_spec_l06Distinct _ n cap zs room salt 0 _ hm (by omega) (by have := keys_get (keys_all HK.out); rw [HZ.out] at this; exact this) HS.out H.out HV.out).mono ?_; rintro e w2 ⟨a2, c2, rfl, o2, x2⟩
    have O2 := Lib.hid o2
    have X2 := Lib.hid x2
    clear o2 x2
    go_wp2
    go_ret3
    exact ⟨a2, c2, rfl, O2.out, X2.out⟩
  · have hlI : (128 : Int) < (n : Int) := by omega
    rw [dstR_no (by rw [decide_eq_false (show ¬ zs.length ≤ 128 by omega)]; rfl)] at hv
    cases hv
    clear hz
    go_enter Tryd.func5, Tryd.ntmps5
    go_wp2
    go_ret3
    exact RetISB.nil _ _ _ (Ext.refl _)
end Go.Proofs.YtplngjbllllanaaDoor
