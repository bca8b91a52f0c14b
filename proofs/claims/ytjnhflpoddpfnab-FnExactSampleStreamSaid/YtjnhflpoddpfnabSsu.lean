/- SampleStream: both sides. -/
import Derived.Test.YtjnhflpoddpfnabSst
namespace Go.Proofs.Ytjnhflpoddpfnab
open Go.ChangeShapes Go.WideShapes Go.ChangeAt Go.RowKit
set_option linter.unusedVariables false
set_option maxRecDepth 100000 in
set_option maxHeartbeats 2000000 in
theorem c_impl_SampleStream (a : Option Addr) (n cap : Nat) (zs : List Int) (room salt : Int) (w : World) {rz : List Int} {rb : Bool} (hv : ssR zs room salt = (rz, rb)) (hm : n ≤ 1048576) (h : Reads w a n (ints zs)) :
    Calls Try.prog 34 #[.slice a n cap, .int .i64 room, .int .i64 salt] w (RetSB 2 rz.length (ints rz) rb w) := by
  have hz := h.int.1
  have H := Lib.hid h
  have HM := Lib.hid hm
  clear h hm
  cases hk : stB zs
  · rw [ssR_no (by rw [hk]; rfl)] at hv
    cases hv
    have HK := Lib.hid hk
    clear hk
    go_enter Try.func34, Try.ntmps34
    go_wp2_with (go_at_call 65; refine (c_impl_areStreamKeys _ _ _ zs _ HK.out HM.out H.out).mono ?_; rintro e w' ⟨rfl, rfl⟩)
    go_ret2
    exact RetSB.nil _ _
  cases hr : inB 1 room 128
  · rw [ssR_no (by rw [hk, hr]; rfl)] at hv
    cases hv
    have HK := Lib.hid hk
    have HR := Lib.hid hr
    clear hk hr
    go_enter Try.func34, Try.ntmps34
    go_wp2_with (first | (go_at_call 65; refine (c_impl_areStreamKeys _ _ _ zs _ HK.out HM.out H.out).mono ?_; rintro e w' ⟨rfl, rfl⟩) | (go_at_call 57; refine (c_impl_isStreamSize_s _ _ HR.out).mono ?_; rintro e w' ⟨rfl, rfl⟩))
    go_ret2
    exact RetSB.nil _ _
  cases hs : keyB salt
  · rw [ssR_no (by rw [hk, hr, hs]; rfl)] at hv
    cases hv
    have HK := Lib.hid hk
    have HR := Lib.hid hr
    have HS := Lib.hid hs
    clear hk hr hs
    go_enter Try.func34, Try.ntmps34
    go_wp2_with (first | (go_at_call 65; refine (c_impl_areStreamKeys _ _ _ zs _ HK.out HM.out H.out).mono ?_; rintro e w' ⟨rfl, rfl⟩) | (go_at_call 57; refine (c_impl_isStreamSize_s _ _ HR.out).mono ?_; rintro e w' ⟨rfl, rfl⟩) | (go_at_call 66; refine (c_impl_IsKey_at salt _ HS.out).mono ?_; rintro e w' ⟨rfl, rfl⟩))
    go_ret2
    exact RetSB.nil _ _
  · rw [ssR_yes (by rw [hk, hr, hs]; rfl), hz] at hv
    cases hv
    have hst : 1 ≤ n ∧ n ≤ 128 := by
      unfold stB at hk
      rw [Bool.and_eq_true, inB_is, hz] at hk
      omega
    have hn1 := hst.1
    have hn2 := hst.2
    have hnI : (n : Int) ≤ 128 := by omega
    have HB := Lib.hid (inB_is.1 hr)
    have HOK := Lib.hid (show (keysB (marks 0 n) && keyB salt) = true by rw [marks_keys hn2, hs]; rfl)
    have HOL := Lib.hid (ordR_len hn2 hs)
    have HK := Lib.hid hk
    have HR := Lib.hid hr
    have HS := Lib.hid hs
    clear hk hr hs hst
    go_enter Try.func34, Try.ntmps34
    go_wp2_with (first | (go_at_call 65; refine (c_impl_areStreamKeys _ _ _ zs _ HK.out HM.out H.out).mono ?_; rintro e w' ⟨rfl, rfl⟩) | (go_at_call 57; refine (c_impl_isStreamSize_s _ _ HR.out).mono ?_; rintro e w' ⟨rfl, rfl⟩) | (go_at_call 66; refine (c_impl_IsKey_at salt _ HS.out).mono ?_; rintro e w' ⟨rfl, rfl⟩) | (go_at_call 68; refine (c_impl_indicesBelow n _ (by omega)).mono ?_; rintro e w1 ⟨a1, c1, rfl, o1, x1⟩; have O1 := Lib.hid o1; have X1 := Lib.hid x1; clear o1 x1))
    refine (c_impl_OrderByHash _ _ _ (marks 0 n) salt _ (by unfold maxLen; omega) O1.out.reads).mono ?_
    rw [HOK.out, HOL.out]
    rintro e w2 ⟨a2, c2, rfl, o2, x2⟩
    have O2 := Lib.hid o2
    have X2 := Lib.hid (X1.out.trans x2)
    clear o2 x2
    go_wp2_with fail
    refine (c_impl_firstOf _ _ _ _ _ (ordR (marks 0 n) salt) room _ (by omega) HB.out.1 HB.out.2 O2.out).mono ?_; rintro e w3 ⟨rfl, o3, t3⟩
    have O3 := Lib.hid o3
    have T3 := Lib.hid t3
    clear o3 t3
    go_wp2
    go_ret2
    exact ⟨_, _, rfl, O3.out.wide X1.out.size T3.out.size, T3.out.ext X2.out X1.out.size⟩
set_option maxRecDepth 100000 in
set_option maxHeartbeats 2000000 in
theorem c_spec_SampleStream (a : Option Addr) (n cap : Nat) (zs : List Int) (room salt : Int) (w : World) {rz : List Int} {rb : Bool} (hv : ssR zs room salt = (rz, rb)) (hm : n ≤ 1048576) (h : Reads w a n (ints zs)) :
    Calls Try.prog 33 #[.slice a n cap, .int .i64 room, .int .i64 salt] w (RetSB 2 rz.length (ints rz) rb w) := by
  have hz := h.int.1
  have H := Lib.hid h
  have HM := Lib.hid hm
  clear h hm
  cases hk : stB zs
  · rw [ssR_no (by rw [hk]; rfl)] at hv
    cases hv
    have HK := Lib.hid hk
    clear hk
    go_enter Try.func33, Try.ntmps33
    go_wp2_with (go_at_call 62; refine (c_spec_l06Keys_s _ _ _ zs _ HK.out HM.out H.out).mono ?_; rintro e w' ⟨rfl, rfl⟩)
    go_ret2
    exact RetSB.nil _ _
  cases hr : inB 1 room 128
  · rw [ssR_no (by rw [hk, hr]; rfl)] at hv
    cases hv
    have HK := Lib.hid hk
    have HR := Lib.hid hr
    clear hk hr
    go_enter Try.func33, Try.ntmps33
    go_wp2_with (first | (go_at_call 62; refine (c_spec_l06Keys_s _ _ _ zs _ HK.out HM.out H.out).mono ?_; rintro e w' ⟨rfl, rfl⟩) | (go_at_call 72; refine (c_spec_l06Room _ _ HR.out).mono ?_; rintro e w' ⟨rfl, rfl⟩))
    go_ret2
    exact RetSB.nil _ _
  cases hs : keyB salt
  · rw [ssR_no (by rw [hk, hr, hs]; rfl)] at hv
    cases hv
    have HK := Lib.hid hk
    have HR := Lib.hid hr
    have HS := Lib.hid hs
    clear hk hr hs
    go_enter Try.func33, Try.ntmps33
    go_wp2_with (first | (go_at_call 62; refine (c_spec_l06Keys_s _ _ _ zs _ HK.out HM.out H.out).mono ?_; rintro e w' ⟨rfl, rfl⟩) | (go_at_call 72; refine (c_spec_l06Room _ _ HR.out).mono ?_; rintro e w' ⟨rfl, rfl⟩) | (go_at_call 63; refine (c_spec_l02Key_at salt _ HS.out).mono ?_; rintro e w' ⟨rfl, rfl⟩))
    go_ret2
    exact RetSB.nil _ _
  · rw [ssR_yes (by rw [hk, hr, hs]; rfl), hz] at hv
    cases hv
    have hst : 1 ≤ n ∧ n ≤ 128 := by
      unfold stB at hk
      rw [Bool.and_eq_true, inB_is, hz] at hk
      omega
    have hn1 := hst.1
    have hn2 := hst.2
    have hnI : (n : Int) ≤ 128 := by omega
    have HB := Lib.hid (inB_is.1 hr)
    have HOK := Lib.hid (show (keysB (marks 0 n) && keyB salt) = true by rw [marks_keys hn2, hs]; rfl)
    have HOL := Lib.hid (ordR_len hn2 hs)
    have HK := Lib.hid hk
    have HR := Lib.hid hr
    have HS := Lib.hid hs
    clear hk hr hs hst
    go_enter Try.func33, Try.ntmps33
    obtain ⟨i0, hi, hz0, hz1, hz2⟩ := info_parts info_i64
    go_wp2_with (first | (go_at_call 62; refine (c_spec_l06Keys_s _ _ _ zs _ HK.out HM.out H.out).mono ?_; rintro e w' ⟨rfl, rfl⟩) | (go_at_call 72; refine (c_spec_l06Room _ _ HR.out).mono ?_; rintro e w' ⟨rfl, rfl⟩) | (go_at_call 63; refine (c_spec_l02Key_at salt _ HS.out).mono ?_; rintro e w' ⟨rfl, rfl⟩))
    go_loopw [8, 9] (fun v i wr => ∃ k : Nat, k ≤ n ∧ i = .int .i64 k ∧ wr.ownsRow w.heap.size 2 1 v k (ints ((marks 0 n).take k)) ∧ Ext w wr) (fun _ i _ => n - (intOf i).toNat)
    case atStart => exact ⟨0, Nat.zero_le _, rfl, World.ownsRow_made _ _ _ (Nat.le_refl _) (Nat.zero_le _) rfl, Ext.alloc _ _⟩
    case round =>
      obtain ⟨k, hk, rfl, hown, hext⟩ := hrel
      have HO := Lib.hid hown
      have HE := Lib.hid hext
      by_cases hlt : k < n
      · have hltI : (k : Int) < (n : Int) := by omega
        have HT := Lib.hid (ints_snoc (marks 0 n) k (by rw [marks_length]; exact hlt))
        have HG := Lib.hid (show (marks 0 n)[k]?.getD 0 = (k : Int) by rw [marks_get 0 n k hlt, Nat.zero_add])
        clear hown hext
        go_wp2_with (at_builtin; refine wpList_append_own _ rfl _ _ 22 rfl w.heap.size 2 i0 (.int .i64 0) 1 8 Try.underlying22 hi hz0 hz1 hz2 rfl (by decide) _ _ _ rfl (HO.out.alloc _) ⟨_, 0, none⟩ 1 1 [.int .i64 (k : Int)] rfl rfl ?c1 ?c2 ?c3 ?c4 ?c5 ?_)
        case c1 => exact one_cell_at _ _ _
        case c2 => intro u hu; simp at hu; subst hu; rfl
        case c3 => unfold maxLen; omega
        case c4 => omega
        case c5 => have := HE.out.size; simp; omega
        intro v' w1 hown' hgrow _
        have HO' := Lib.hid hown'
        have HE' := Lib.hid (app_step HE.out HO.out hgrow)
        clear hown' hgrow
        go_wp2
        go_roundw
        case rel => exact ⟨k + 1, by omega, by go_num, by rw [HT.out, HG.out]; exact HO'.out, HE'.out⟩
        case measure => simp [intOf]; omega
      · have hkl : k = n := by omega
        subst hkl
        obtain ⟨a1, c1, hv1, ho⟩ := Own.of_row (e := 0) hown
        subst hv1
        rw [List.take_of_length_le (by rw [marks_length]; exact Nat.le_refl _)] at ho
        have O1 := Lib.hid ho
        clear ho hown hext
        obtain ⟨q, hq⟩ : ∃ q : Nat, min room.toNat k = q := ⟨_, rfl⟩
        have hqm : min room (k : Int) = (q : Int) := by have := HB.out; omega
        have hq1 : 1 ≤ q := by have := HB.out; omega
        have hqk : q ≤ k := by omega
        have hqI : (q : Int) ≤ 128 := by omega
        have HQM := Lib.hid hqm
        have HTK := Lib.hid (show (ordR (marks 0 k) salt).take room.toNat = (ordR (marks 0 k) salt).take q by
          have hl := HOL.out
          rcases Nat.le_total room.toNat k with h1 | h1
          · rw [show q = room.toNat by omega]
          · rw [List.take_of_length_le (by omega), List.take_of_length_le (by omega)])
        have HLQ := Lib.hid (show (sortZ ((ordR (marks 0 k) salt).take q)).length = q by rw [sortZ_length, List.length_take, HOL.out]; omega)
        clear hq hqm
        go_wp2_with fail
        refine (c_spec_OrderByHash _ _ _ (marks 0 k) salt _ (by unfold maxLen; omega) O1.out.reads).mono ?_
        rw [HOK.out, HOL.out]
        rintro e w2 ⟨a2, c2, rfl, o2, x2⟩
        have hqc : q ≤ c2 := by have := o2.2.1; omega
        have O2 := Lib.hid (o2.cut hqk)
        have X2 := Lib.hid (HE.out.trans x2)
        clear o2 x2
        go_wp2_with (go_at_call 44; refine (c_spec_l00Min_s _ _ _ _ HQM.out).mono ?_; rintro e w' ⟨rfl, rfl⟩)
        refine (c_spec_l06Sorted _ _ _ _ _ hq1 (by omega) O2.out.reads).mono ?_; rintro e w3 ⟨a3, c3, rfl, o3, x3⟩
        have O3 := Lib.hid o3
        have X3 := Lib.hid (X2.out.trans x3)
        have SZ := Lib.hid X2.out.size
        clear o3 x3
        go_wp2
        go_ret2
        exact ⟨a3, c3, by first | (rw [HTK.out, HLQ.out]; done) | (rw [HTK.out, HLQ.out]; rfl), by rw [HTK.out, HLQ.out]; exact O3.out.wide SZ.out (Nat.le_refl _), X3.out⟩
end Go.Proofs.Ytjnhflpoddpfnab
