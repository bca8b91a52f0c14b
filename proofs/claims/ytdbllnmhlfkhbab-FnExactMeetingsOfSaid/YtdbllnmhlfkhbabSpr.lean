/- SpreadOfKeys: what both sides answer. -/
import Derived.Test.YtdbllnmhlfkhbabRow
import Derived.Test.YtdbllnmhlfkhbabSca
namespace Go.Proofs.Ytdbllnmhlfkhbab
open Go.ChangeShapes Go.WideShapes Go.ChangeAt Go.RowKit
set_option linter.unusedVariables false
def spreadB (zs : List Int) (salt n : Int) : Bool := keysB zs && keyB salt && inB 1 n 256
def belows (zs : List Int) (salt : Int) (m : Nat) : List Nat := zs.map fun k => belowN k salt m
def spreadZ (zs : List Int) (salt : Int) (m : Nat) : List Int := (List.range m).map fun i => (((belows zs salt m).count i : Nat) : Int)
def spreadV (zs : List Int) (salt n : Int) : List Int := if spreadB zs salt n then spreadZ zs salt n.toNat else []
theorem spreadZ_length (zs : List Int) (salt : Int) (m : Nat) : (spreadZ zs salt m).length = m := by simp [spreadZ]
theorem inB_of {lo k hi : Int} (h : inB lo k hi = true) : lo ≤ k ∧ k ≤ hi := of_decide_eq_true h
theorem inB_ofno {lo k hi : Int} (h : inB lo k hi = false) : ¬ (lo ≤ k ∧ k ≤ hi) := of_decide_eq_false h
theorem spreadV_yes {zs : List Int} {salt : Int} {m : Nat} (h : spreadB zs salt m = true) : spreadV zs salt m = spreadZ zs salt m := by unfold spreadV; rw [h, if_pos rfl]; simp
theorem spreadV_no {zs : List Int} {salt n : Int} (h : spreadB zs salt n = false) : spreadV zs salt n = [] := by unfold spreadV; rw [h]; rfl
theorem spreadV_le (zs : List Int) (salt n : Int) : (spreadV zs salt n).length ≤ 256 := by
  unfold spreadV
  split
  · rename_i h
    unfold spreadB at h
    simp only [Bool.and_eq_true] at h
    have := inB_of h.2
    rw [spreadZ_length]; omega
  · exact Nat.zero_le _
def cntF (zs : List Int) (salt : Int) (m k i : Nat) : Value := .int .i64 (((belows (zs.take k) salt m).count i : Nat) : Int)
theorem cnt_le (zs : List Int) (salt : Int) (m k i : Nat) : (belows (zs.take k) salt m).count i ≤ k := by
  refine Nat.le_trans (List.count_le_length) ?_
  unfold belows
  rw [List.length_map, List.length_take]; omega
theorem cntF_step (zs : List Int) (salt : Int) (m k y c : Nat) {x : Int} (hk : k < zs.length) (hx : zs[k]?.getD 0 = x) (hy : belowN x salt m = y) (hc : (belows (zs.take k) salt m).count y = c) {w : World} {b : Nat} {t : TypeId} (h : w.rowIs b t m (cntF zs salt m k)) :
    (w.setCell ⟨b, y, none⟩ (.int .i64 ((c : Int) + 1))).rowIs b t m (cntF zs salt m (k + 1)) := by
  have e : belows (zs.take (k + 1)) salt m = belows (zs.take k) salt m ++ [y] := by
    unfold belows
    rw [List.take_succ_eq_append_getElem hk, List.map_append]
    rw [List.getElem?_eq_getElem hk] at hx
    simp only [Option.getD_some] at hx
    rw [hx]
    simp [hy]
  refine (h.set y _).congr fun i hi => ?_
  unfold cntF
  rw [e, List.count_append, List.count_singleton]
  by_cases ei : i = y
  · subst ei; rw [if_pos rfl, hc]; simp
  · rw [if_neg ei]
    have : (y == i) = false := by simpa using fun h => ei h.symm
    rw [this]; simp
theorem cntF_zero (zs : List Int) (salt : Int) (m : Nat) (i : Nat) : Value.int .i64 0 = cntF zs salt m 0 i := by simp [cntF, belows]
theorem cntF_all (zs : List Int) (salt : Int) (m i : Nat) (h : i < m) : (ints (spreadZ zs salt m))[i]? = some (cntF zs salt m zs.length i) := by
  unfold cntF
  rw [ints_get _ i (by rw [spreadZ_length]; exact h), List.take_length]
  simp [spreadZ, h]
theorem spreadB_1 {zs : List Int} {salt n : Int} (h : keysB zs = false) : spreadB zs salt n = false := by unfold spreadB; rw [h]; rfl
theorem spreadB_2 {zs : List Int} {salt n : Int} (h : keyB salt = false) : spreadB zs salt n = false := by unfold spreadB; rw [h]; simp
theorem spreadB_3 {zs : List Int} {salt n : Int} (h : inB 1 n 256 = false) : spreadB zs salt n = false := by unfold spreadB; rw [h]; simp
theorem spreadB_mk {zs : List Int} {salt n : Int} (h1 : keysB zs = true) (h2 : keyB salt = true) (h3 : inB 1 n 256 = true) : spreadB zs salt n = true := by unfold spreadB; rw [h1, h2, h3]; rfl
theorem c_impl_hashBelow_of (key salt : Int) (n y : Nat) (w : World) (hk : keyB key = true) (hs : keyB salt = true) (hn : n ≤ 4294967296) (hy : belowN key salt n = y) : Calls Try.prog 61 #[.int .i64 key, .int .i64 salt, .int .i64 n] w fun e w' => e = .returned (.int .i64 (y : Nat)) ∧ w = w' := by
  subst hy; exact c_impl_hashBelow key salt n w hk hs hn
theorem c_spec_l02Below_of (key salt : Int) (n y : Nat) (w : World) (hk : keyB key = true) (hs : keyB salt = true) (hn : n ≤ 4294967296) (hy : belowN key salt n = y) : Calls Try.prog 59 #[.int .i64 key, .int .i64 salt, .int .i64 n] w fun e w' => e = .returned (.int .i64 (y : Nat)) ∧ w = w' := by
  subst hy; exact c_spec_l02Below key salt n w hk hs hn
set_option maxHeartbeats 400000 in
theorem c_impl_SpreadOfKeys (a : Option Addr) (n0 cap : Nat) (zs : List Int) (salt n : Int) (w : World) (hm : n0 ≤ maxLen) (h : Reads w a n0 (ints zs)) :
    Calls Try.prog 26 #[.slice a n0 cap, .int .i64 salt, .int .i64 n] w (RetSB 2 (spreadV zs salt n).length (ints (spreadV zs salt n)) (spreadB zs salt n) w) := by
  have H := Lib.hid h
  cases hk : keysB zs
  · have HK := Lib.hid hk
    rw [spreadV_no (spreadB_1 hk), spreadB_1 hk]
    clear hk h
    go_enter Try.func26, Try.ntmps26
    go_wp2_with (go_at_call 49; refine (c_impl_AreKeys_of _ _ _ zs _ HK.out hm H.out).mono ?_; rintro e w' ⟨rfl, rfl⟩)
    go_ret2
    exact RetSB.nil _ _
  · cases hs : keyB salt
    · have HK := Lib.hid hk
      have HS := Lib.hid hs
      rw [spreadV_no (spreadB_2 hs), spreadB_2 hs]
      clear hk hs h
      go_enter Try.func26, Try.ntmps26
      go_wp2_with (first | (go_at_call 49; refine (c_impl_AreKeys_of _ _ _ zs _ HK.out hm H.out).mono ?_; rintro e w' ⟨rfl, rfl⟩) | (go_at_call 60; refine (c_impl_IsKey_at salt _ HS.out).mono ?_; rintro e w' ⟨rfl, rfl⟩))
      go_ret2
      exact RetSB.nil _ _
    · have HK := Lib.hid hk
      have HS := Lib.hid hs
      cases hn : inB 1 n 256
      · rw [spreadV_no (spreadB_3 hn), spreadB_3 hn]
        have hn' := inB_ofno hn
        by_cases h1 : n < 1
        · clear hk hs h hn hn'
          go_enter Try.func26, Try.ntmps26
          go_wp2_with (first | (go_at_call 49; refine (c_impl_AreKeys_of _ _ _ zs _ HK.out hm H.out).mono ?_; rintro e w' ⟨rfl, rfl⟩) | (go_at_call 60; refine (c_impl_IsKey_at salt _ HS.out).mono ?_; rintro e w' ⟨rfl, rfl⟩))
          go_ret2
          exact RetSB.nil _ _
        · have h2 : 256 < n := by omega
          clear hk hs h hn hn' h1
          go_enter Try.func26, Try.ntmps26
          go_wp2_with (first | (go_at_call 49; refine (c_impl_AreKeys_of _ _ _ zs _ HK.out hm H.out).mono ?_; rintro e w' ⟨rfl, rfl⟩) | (go_at_call 60; refine (c_impl_IsKey_at salt _ HS.out).mono ?_; rintro e w' ⟨rfl, rfl⟩))
          go_ret2
          exact RetSB.nil _ _
      · obtain ⟨n1, n2⟩ := inB_of hn
        obtain ⟨m, rfl⟩ := Int.eq_ofNat_of_zero_le (show (0 : Int) ≤ n from by omega)
        have hB := spreadB_mk hk hs hn
        rw [spreadV_yes hB, hB, spreadZ_length]
        have hzl := keysB_len hk
        obtain ⟨hzn, hr⟩ := h.int
        have hmk := run_make_row' (P := Try.prog) 22 2 (.int .i64 0) 8 Try.underlying22 info_i64 rfl .i64 .i64 m (by omega) (by omega)
        have HR := Lib.hid hr
        clear hk hs h hn hr hB
        go_enter Try.func26, Try.ntmps26
        go_wp2_with (first | (go_at_call 49; refine (c_impl_AreKeys_of _ _ _ zs _ HK.out hm H.out).mono ?_; rintro e w' ⟨rfl, rfl⟩) | (go_at_call 60; refine (c_impl_IsKey_at salt _ HS.out).mono ?_; rintro e w' ⟨rfl, rfl⟩))
        go_loopw [31] (fun i wr => ∃ k : Nat, k ≤ n0 ∧ i = .int .i64 k ∧ wr.rowIs w.heap.size 2 m (cntF zs salt m k) ∧ Ext w wr) (fun i _ => n0 - (intOf i).toNat)
        case atStart => exact ⟨0, Nat.zero_le _, rfl, (World.rowIs_made _ _ _ _).congr fun i _ => cntF_zero _ _ _ _, Ext.alloc _ _⟩
        case round =>
          obtain ⟨k, hk, rfl, hrow, hext⟩ := hrel
          by_cases hlt : k < n0
          · rcases HR.out with h0 | ⟨b, off, rfl, hc⟩
            · omega
            have hcell : wr.cell? ⟨b, off + k, none⟩ = some (.int .i64 (zs[k]?.getD 0)) := by
              have h1 := hc k hlt
              rw [hext.cell b _ (World.block_lt_of_cell? w ⟨b, off + k, none⟩ h1)]; exact h1
            obtain ⟨x, hx⟩ : ∃ x, zs[k]?.getD 0 = x := ⟨_, rfl⟩
            have HX := Lib.hid (show keyB x = true by rw [← hx]; exact keysB_at HK.out (by omega))
            obtain ⟨y, hy⟩ : ∃ y, belowN x salt m = y := ⟨_, rfl⟩
            have HY := Lib.hid hy
            have hym : y < m := by rw [← hy]; exact belowN_lt _ _ _ (by omega)
            obtain ⟨c, hcc⟩ : ∃ c, (belows (zs.take k) salt m).count y = c := ⟨_, rfl⟩
            have hcl : c ≤ k := by rw [← hcc]; exact cnt_le _ _ _ _ _
            have hcur : wr.cell? ⟨w.heap.size, y, none⟩ = some (.int .i64 (c : Int)) := by rw [← hcc]; exact hrow.cell hym
            have hfro := hrow.frozen y
            have HF := Lib.hid (cntF_step zs salt m k y c (by omega) hx hy hcc hrow)
            have HE := Lib.hid (show Ext w (wr.setCell ⟨w.heap.size, y, none⟩ (.int .i64 ((c : Int) + 1))) from Below.setCell hext (Nat.le_refl _) _)
            rw [hx] at hcell
            clear hc hrow hext hx hy hcc
            go_wp2_with (go_at_call 61; refine (c_impl_hashBelow_of x salt m y _ HX.out HS.out (by omega) HY.out).mono ?_; rintro e w' ⟨rfl, rfl⟩)
            go_roundw
            case rel => exact ⟨k + 1, by omega, by go_num, HF.out, HE.out⟩
            case measure => simp [intOf]; omega
          · obtain rfl : k = n0 := by omega
            have HF := Lib.hid hrow
            have HE := Lib.hid hext
            have HN := Lib.hid hzn
            clear hrow hext hzn
            go_wp2
            go_ret2
            exact ⟨_, _, rfl, own_made (by rw [ints_length, spreadZ_length]) (Nat.le_refl _) HF.out (fun i hi => by rw [cntF_all _ _ _ _ hi, HN.out]), HE.out⟩
theorem c_l00In_at (k lo hi : Int) (w : World) {b : Bool} (h : inB lo k hi = b) : Calls Try.prog 58 #[.int .i64 k, .int .i64 lo, .int .i64 hi] w fun e w' => e = .returned (.bool b) ∧ w = w' := by
  subst h; exact c_l00In k lo hi w
set_option maxHeartbeats 400000 in
theorem c_spec_SpreadOfKeys (a : Option Addr) (n0 cap : Nat) (zs : List Int) (salt n : Int) (w : World) (hm : n0 ≤ maxLen) (h : Reads w a n0 (ints zs)) :
    Calls Try.prog 25 #[.slice a n0 cap, .int .i64 salt, .int .i64 n] w (RetSB 2 (spreadV zs salt n).length (ints (spreadV zs salt n)) (spreadB zs salt n) w) := by
  have H := Lib.hid h
  cases hk : keysB zs
  · have HK := Lib.hid hk
    rw [spreadV_no (spreadB_1 hk), spreadB_1 hk]
    clear hk h
    go_enter Try.func25, Try.ntmps25
    go_wp2_with (go_at_call 47; refine (c_spec_l02Keys_of _ _ _ zs _ HK.out hm H.out).mono ?_; rintro e w' ⟨rfl, rfl⟩)
    go_ret2
    exact RetSB.nil _ _
  · cases hs : keyB salt
    · have HK := Lib.hid hk
      have HS := Lib.hid hs
      rw [spreadV_no (spreadB_2 hs), spreadB_2 hs]
      clear hk hs h
      go_enter Try.func25, Try.ntmps25
      go_wp2_with (first | (go_at_call 47; refine (c_spec_l02Keys_of _ _ _ zs _ HK.out hm H.out).mono ?_; rintro e w' ⟨rfl, rfl⟩) | (go_at_call 52; refine (c_spec_l02Key_at salt _ HS.out).mono ?_; rintro e w' ⟨rfl, rfl⟩))
      go_ret2
      exact RetSB.nil _ _
    · have HK := Lib.hid hk
      have HS := Lib.hid hs
      cases hn : inB 1 n 256
      · have HN := Lib.hid hn
        rw [spreadV_no (spreadB_3 hn), spreadB_3 hn]
        clear hk hs h hn
        go_enter Try.func25, Try.ntmps25
        go_wp2_with (first | (go_at_call 47; refine (c_spec_l02Keys_of _ _ _ zs _ HK.out hm H.out).mono ?_; rintro e w' ⟨rfl, rfl⟩) | (go_at_call 52; refine (c_spec_l02Key_at salt _ HS.out).mono ?_; rintro e w' ⟨rfl, rfl⟩) | (go_at_call 58; refine (c_l00In_at _ _ _ _ HN.out).mono ?_; rintro e w' ⟨rfl, rfl⟩))
        go_ret2
        exact RetSB.nil _ _
      · obtain ⟨n1, n2⟩ := inB_of hn
        obtain ⟨m, rfl⟩ := Int.eq_ofNat_of_zero_le (show (0 : Int) ≤ n from by omega)
        have hB := spreadB_mk hk hs hn
        rw [spreadV_yes hB, hB, spreadZ_length]
        have hzl := keysB_len hk
        have HN := Lib.hid hn
        obtain ⟨hzn, hr⟩ := h.int
        have hmk := run_make_row' (P := Try.prog) 22 2 (.int .i64 0) 8 Try.underlying22 info_i64 rfl .i64 .i64 m (by omega) (by omega)
        have HR := Lib.hid hr
        clear hk hs h hn hr hB
        go_enter Try.func25, Try.ntmps25
        go_wp2_with (first | (go_at_call 47; refine (c_spec_l02Keys_of _ _ _ zs _ HK.out hm H.out).mono ?_; rintro e w' ⟨rfl, rfl⟩) | (go_at_call 52; refine (c_spec_l02Key_at salt _ HS.out).mono ?_; rintro e w' ⟨rfl, rfl⟩) | (go_at_call 58; refine (c_l00In_at _ _ _ _ HN.out).mono ?_; rintro e w' ⟨rfl, rfl⟩))
        go_loopw [9] (fun i wr => ∃ k : Nat, k ≤ n0 ∧ i = .int .i64 k ∧ wr.rowIs w.heap.size 2 m (cntF zs salt m k) ∧ Ext w wr) (fun i _ => n0 - (intOf i).toNat)
        case atStart => exact ⟨0, Nat.zero_le _, rfl, (World.rowIs_made _ _ _ _).congr fun i _ => cntF_zero _ _ _ _, Ext.alloc _ _⟩
        case round =>
          obtain ⟨k, hk, rfl, hrow, hext⟩ := hrel
          by_cases hlt : k < n0
          · rcases HR.out with h0 | ⟨b, off, rfl, hc⟩
            · omega
            have hcell : wr.cell? ⟨b, off + k, none⟩ = some (.int .i64 (zs[k]?.getD 0)) := by
              have h1 := hc k hlt
              rw [hext.cell b _ (World.block_lt_of_cell? w ⟨b, off + k, none⟩ h1)]; exact h1
            obtain ⟨x, hx⟩ : ∃ x, zs[k]?.getD 0 = x := ⟨_, rfl⟩
            have HX := Lib.hid (show keyB x = true by rw [← hx]; exact keysB_at HK.out (by omega))
            obtain ⟨y, hy⟩ : ∃ y, belowN x salt m = y := ⟨_, rfl⟩
            have HY := Lib.hid hy
            have hym : y < m := by rw [← hy]; exact belowN_lt _ _ _ (by omega)
            obtain ⟨c, hcc⟩ : ∃ c, (belows (zs.take k) salt m).count y = c := ⟨_, rfl⟩
            have hcl : c ≤ k := by rw [← hcc]; exact cnt_le _ _ _ _ _
            have hcur : wr.cell? ⟨w.heap.size, y, none⟩ = some (.int .i64 (c : Int)) := by rw [← hcc]; exact hrow.cell hym
            have hfro := hrow.frozen y
            have HF := Lib.hid (cntF_step zs salt m k y c (by omega) hx hy hcc hrow)
            have HE := Lib.hid (show Ext w (wr.setCell ⟨w.heap.size, y, none⟩ (.int .i64 ((c : Int) + 1))) from Below.setCell hext (Nat.le_refl _) _)
            rw [hx] at hcell
            clear hc hrow hext hx hy hcc
            go_wp2_with (go_at_call 59; refine (c_spec_l02Below_of x salt m y _ HX.out HS.out (by omega) HY.out).mono ?_; rintro e w' ⟨rfl, rfl⟩)
            go_roundw
            case rel => exact ⟨k + 1, by omega, by go_num, HF.out, HE.out⟩
            case measure => simp [intOf]; omega
          · obtain rfl : k = n0 := by omega
            have HF := Lib.hid hrow
            have HE := Lib.hid hext
            have HN' := Lib.hid hzn
            clear hrow hext hzn
            go_wp2
            go_ret2
            exact ⟨_, _, rfl, own_made (by rw [ints_length, spreadZ_length]) (Nat.le_refl _) HF.out (fun i hi => by rw [cntF_all _ _ _ _ hi, HN'.out]), HE.out⟩
end Go.Proofs.Ytdbllnmhlfkhbab
