/- Numbers put to their places among rising ones, once (l00Put): plain facts and the contract. -/
import Derived.Test.YtfmjohpmfcmpoabLsd
import Derived.Test.YtfmjohpmfcmpoabLdj
namespace Go.Proofs.Ytfmjohpmfcmpoab
open Go.ChangeShapes Go.WideShapes Go.ChangeAt Go.RowKit
set_option linter.unusedVariables false
/-- what is put ahead of the place p -/
def insAt (L : List Int) (p : Nat) (x : Int) : List Int := if x < getI L p then [x] else []
/-- .. and the first k of the list, the number being put in at its place -/
def putK (L : List Int) (x : Int) (k : Nat) : List Int := if belowC x L < k then L.take (belowC x L) ++ (insAt L (belowC x L) x ++ (L.take k).drop (belowC x L)) else L.take k
def putZ (L : List Int) (x : Int) : List Int := if belowC x L < L.length then putK L x L.length else L ++ [x]
theorem take_snocI (L : List Int) (k : Nat) (h : k < L.length) : L.take (k + 1) = L.take k ++ [getI L k] := by
  rw [List.take_succ_eq_append_getElem h]; unfold getI; rw [List.getElem?_eq_getElem h]; rfl
theorem putK_zero (L : List Int) (x : Int) : putK L x 0 = [] := by unfold putK; rw [if_neg (Nat.not_lt_zero _)]; rfl
theorem putK_lo {L : List Int} {x : Int} {k : Nat} (h : k < belowC x L) : putK L x (k + 1) = putK L x k ++ [getI L k] := by
  have := belowC_le x L
  unfold putK; rw [if_neg (by omega), if_neg (by omega), take_snocI L k (by omega)]
theorem putK_at {L : List Int} {x : Int} {k : Nat} (h : k = belowC x L) (hk : k < L.length) : putK L x (k + 1) = putK L x k ++ (insAt L k x ++ [getI L k]) := by
  unfold putK; rw [if_pos (by omega), if_neg (by omega), ← h, take_snocI L k hk, List.drop_append_of_le_length (by rw [List.length_take]; omega), List.drop_of_length_le (by rw [List.length_take]; omega), List.nil_append]
theorem putK_hi {L : List Int} {x : Int} {k : Nat} (h : belowC x L < k) (hk : k < L.length) : putK L x (k + 1) = putK L x k ++ [getI L k] := by
  unfold putK; rw [if_pos (by omega), if_pos h, take_snocI L k hk, List.drop_append_of_le_length (by rw [List.length_take]; omega)]; simp only [List.append_assoc]
theorem insAt_yes {L : List Int} {p : Nat} {x : Int} (h : x < getI L p) : insAt L p x = [x] := if_pos h
theorem insAt_no {L : List Int} {p : Nat} {x : Int} (h : ¬ x < getI L p) : insAt L p x = [] := if_neg h
theorem putZ_yes {L : List Int} {x : Int} (h : belowC x L < L.length) : putZ L x = putK L x L.length := if_pos h
theorem putZ_no {L : List Int} {x : Int} (h : ¬ belowC x L < L.length) : putZ L x = putK L x L.length ++ [x] := by
  unfold putZ; rw [if_neg h]; unfold putK; rw [if_neg h, List.take_of_length_le (Nat.le_refl _)]
theorem insAt_le (L : List Int) (p : Nat) (x : Int) : (insAt L p x).length ≤ 1 := by unfold insAt; split <;> simp
theorem putK_le (L : List Int) (x : Int) (k : Nat) : (putK L x k).length ≤ k + 1 := by
  have h1 := insAt_le L (belowC x L) x
  unfold putK; split
  · simp only [List.length_append, List.length_take, List.length_drop]; omega
  · rw [List.length_take]; omega
/-- put into the different numbers of a list in order, a number makes those of the list with it -/
theorem putZ_least {room : Nat} {zs : List Int} (x : Int) (hr : zs.length < room) : putZ (leastD room zs) x = leastD room (zs ++ [x]) := by
  have hs := (leastD_ok room zs).s
  have hl := leastD_len room zs
  obtain ⟨L, hL⟩ : ∃ L, leastD room zs = L := ⟨_, rfl⟩
  have hb := belowC_le x L
  rw [hL] at hs hl
  by_cases hp : belowC x L < L.length
  · have h1 := belowC_hi x L hp
    by_cases he : x = getI L (belowC x L)
    · have hm : x ∈ L := by
        rw [he]; unfold getI; rw [List.getElem?_eq_getElem hp]; exact List.getElem_mem hp
      rw [leastD_old (by rw [hL]; exact hm), hL, putZ_yes hp]
      unfold putK; rw [if_pos hp, insAt_no (by omega), List.nil_append, List.take_length, List.take_append_drop]
    · have h2 : x < getI L (belowC x L) := by omega
      rw [leastD_new (p := belowC x L) (by rw [hL]; exact hb) (by rw [hL]; exact belowC_take x L) (by rw [hL]; exact belowC_drop hs (fun _ => fun e => he e.symm)), hL, putZ_yes hp]
      unfold putK; rw [if_pos hp, insAt_yes h2, List.take_length]
      have e : (L.take (belowC x L) ++ x :: L.drop (belowC x L)).length ≤ room := by
        rw [List.length_append, List.length_cons, List.length_take, List.length_drop]; omega
      rw [List.take_of_length_le e]; rfl
  · have hpl : belowC x L = L.length := by omega
    have h3 := belowC_take x L
    rw [hpl, List.take_length] at h3
    rw [leastD_new (p := L.length) (by rw [hL]; exact Nat.le_refl _) (by rw [hL, List.take_length]; exact h3) (by rw [hL, List.drop_length]; intro y hy; cases hy), hL]
    have e : (L ++ [x]).length ≤ room := by rw [List.length_append, List.length_singleton]; omega
    unfold putZ; rw [if_neg hp, List.take_length, List.drop_length, List.take_of_length_le e]
/-- different numbers, sorted, are the different numbers in order -/
theorem sort_least {room : Nat} {zs : List Int} (hr : zs.length ≤ room) (hn : zs.Nodup) : sortZ zs = leastD room zs := by
  have h1 : (sortZ zs).Pairwise (fun a b => a < b) := by
    have h2 : (sortZ zs).Nodup := (List.mergeSort_perm zs _).nodup_iff.2 hn
    exact ((sortZ_asc zs).and (List.nodup_iff_pairwise_ne.1 h2)).imp fun h => by omega
  have h3 := take_ok (room := room) h1 (fun x => sortZ_mem zs x)
  rw [List.take_of_length_le (by rw [sortZ_length]; exact hr)] at h3
  exact h3.uniq (leastD_ok room zs)
theorem ints_app1 (xs : List Int) (y : Int) : ints (xs ++ [y]) = ints xs ++ [.int .i64 y] := by unfold ints; rw [List.map_append]; rfl
set_option maxRecDepth 100000 in
set_option maxHeartbeats 2000000 in
theorem c_spec_l00Put (a : Option Addr) (n cap : Nat) (L : List Int) (x : Int) (w : World) {M : List Int} (hv : putZ L x = M) (hn : n ≤ 1000000) (h : Reads w a n (ints L)) :
    Calls Try.prog 80 #[.slice a n cap, .int .i64 x] w (RetS 2 M.length (ints M) w) := by
  obtain ⟨hz, hrd⟩ := h.int
  obtain ⟨i0, hi, hz0, hz1, hz2⟩ := info_parts info_i64
  have HR := Lib.hid hrd
  have HZ := Lib.hid hz
  have HV := Lib.hid hv
  have HB := Lib.hid (belowC_le x L)
  have HLO := Lib.hid (belowC_lo x L)
  have HHI := Lib.hid (belowC_hi x L)
  obtain ⟨p, hp⟩ : ∃ p, belowC x L = p := ⟨_, rfl⟩
  have HP := Lib.hid hp
  rw [hp] at HB HLO HHI
  have hpn : p ≤ n := by have := HB.out; omega
  clear h hz hrd hv hp
  go_enter Try.func80, Try.ntmps80
  go_wp2
  go_loopw [5, 6, 7] (fun v d i wr => ∃ k : Nat, k ≤ n ∧ i = .int .i64 k ∧ d = .bool (decide (p < k)) ∧ wr.ownsRow w.heap.size 2 1 v (putK L x k).length (ints (putK L x k)) ∧ Ext w wr) (fun _ _ i _ => n - (intOf i).toNat)
  case atStart => exact ⟨0, Nat.zero_le _, rfl, by rw [decide_eq_false (Nat.not_lt_zero _)], by rw [putK_zero]; exact World.ownsRow_made _ _ _ (Nat.le_refl _) (Nat.zero_le _) rfl, Ext.alloc _ _⟩
  case round =>
    obtain ⟨k, hk, rfl, rfl, hown, hext⟩ := hrel
    have HO := Lib.hid hown
    have HE := Lib.hid hext
    clear hown hext
    have hml : (putK L x k).length ≤ k + 1 := putK_le L x k
    by_cases hlt : k < n
    · have hltI : (k : Int) < (n : Int) := by omega
      rcases HR.out with h0 | ⟨b, off, rfl, hc⟩
      · omega
      have cz : wr.cell? ⟨b, off + k, none⟩ = some (.int .i64 (getI L k)) := HE.out.some (hc k hlt)
      obtain ⟨y, hy⟩ : ∃ y, getI L k = y := ⟨_, rfl⟩
      have HY := Lib.hid hy
      rw [hy] at cz
      have HCW := Lib.hid (show w.cell? ⟨b, off + k, none⟩ = some (.int .i64 y) by rw [← hy]; exact hc k hlt)
      clear hc hy
      by_cases h1 : k < p
      · have hyx : y < x := by have := HLO.out k h1; rw [HY.out] at this; exact this
        have hyx2 : ¬ x ≤ y := by omega
        have HM := Lib.hid (show putK L x (k + 1) = putK L x k ++ [y] by rw [putK_lo (by rw [HP.out]; exact h1), HY.out])
        have HD := Lib.hid (show decide (p < k + 1) = false from decide_eq_false (by omega))
        rw [decide_eq_false (show ¬ p < k by omega)]
        obtain ⟨m, hm⟩ : ∃ m, (putK L x k).length = m := ⟨_, rfl⟩
        have HML := Lib.hid hm
        rw [hm] at hml HO
        clear hm
        go_wp2_with (at_builtin; refine wpList_append_own _ rfl _ _ 22 rfl w.heap.size 2 i0 (.int .i64 0) 1 8 Try.underlying22 hi hz0 hz1 hz2 rfl (by decide) _ _ _ rfl (HO.out.alloc _) ⟨_, 0, none⟩ 1 1 [.int .i64 y] rfl rfl (by first | exact one_cell_at _ _ _) (by intro u hu; simp at hu; subst hu; rfl) (by unfold maxLen; omega) (by omega) (by have := HE.out.size; simp; omega) ?_; intro v' w1 hown' hgrow _; have HO2 := Lib.hid hown'; have HE2 := Lib.hid (app_step HE.out HO.out hgrow); clear hown' hgrow HO)
        go_wp2
        go_roundw
        case rel => exact ⟨k + 1, by omega, by go_num, by rw [HD.out], by rw [HM.out, List.length_append, ints_app1, List.length_singleton, HML.out]; exact HO2.out, HE2.out⟩
        case measure => simp [intOf]; omega
      by_cases h2 : k = p
      · have hyx : x ≤ y := by have := HHI.out (by rw [HZ.out]; omega); rw [← h2, HY.out] at this; exact this
        have HD := Lib.hid (show decide (p < k + 1) = true from decide_eq_true (by omega))
        have HM := Lib.hid (show putK L x (k + 1) = putK L x k ++ (insAt L k x ++ [y]) by rw [putK_at (by rw [HP.out]; exact h2) (by rw [HZ.out]; exact hlt), HY.out])
        rw [decide_eq_false (show ¬ p < k by omega)]
        obtain ⟨m, hm⟩ : ∃ m, (putK L x k).length = m := ⟨_, rfl⟩
        have HML := Lib.hid hm
        rw [hm] at hml HO
        clear hm h2
        by_cases h3 : x < y
        · have HI := Lib.hid (show insAt L k x = [x] from insAt_yes (by rw [HY.out]; exact h3))
          go_wp2_with (first | (at_builtin; refine wpList_append_own _ rfl _ _ 22 rfl w.heap.size 2 i0 (.int .i64 0) 1 8 Try.underlying22 hi hz0 hz1 hz2 rfl (by decide) _ _ _ rfl (HO.out.alloc _) ⟨_, 0, none⟩ 1 1 [.int .i64 x] rfl rfl (by first | exact one_cell_at _ _ _) (by intro u hu; simp at hu; subst hu; rfl) (by unfold maxLen; omega) (by omega) (by have := HE.out.size; simp; omega) ?_; intro v' w1 hown' hgrow _; have HO2 := Lib.hid hown'; have HE2 := Lib.hid (app_step HE.out HO.out hgrow); have cz2 := HE2.out.some HCW.out; clear hown' hgrow HO) | (at_builtin; refine wpList_append_own _ rfl _ _ 22 rfl w.heap.size 2 i0 (.int .i64 0) 1 8 Try.underlying22 hi hz0 hz1 hz2 rfl (by decide) _ _ _ rfl (HO2.out.alloc _) ⟨_, 0, none⟩ 1 1 [.int .i64 y] rfl rfl (by first | exact one_cell_at _ _ _) (by intro u hu; simp at hu; subst hu; rfl) (by unfold maxLen; omega) (by omega) (by have := HE2.out.size; simp; omega) ?_; intro v' w1 hown' hgrow _; have HO3 := Lib.hid hown'; have HE3 := Lib.hid (app_step HE2.out HO2.out hgrow); clear hown' hgrow HO2))
          go_wp2
          go_roundw
          case rel => exact ⟨k + 1, by omega, by go_num, by rw [HD.out], by rw [HM.out, HI.out, List.length_append, ← List.append_assoc, ints_app1, ints_app1, HML.out]; exact HO3.out, HE3.out⟩
          case measure => simp [intOf]; omega
        · have HI := Lib.hid (show insAt L k x = [] from insAt_no (by rw [HY.out]; exact h3))
          go_wp2_with (at_builtin; refine wpList_append_own _ rfl _ _ 22 rfl w.heap.size 2 i0 (.int .i64 0) 1 8 Try.underlying22 hi hz0 hz1 hz2 rfl (by decide) _ _ _ rfl (HO.out.alloc _) ⟨_, 0, none⟩ 1 1 [.int .i64 y] rfl rfl (by first | exact one_cell_at _ _ _) (by intro u hu; simp at hu; subst hu; rfl) (by unfold maxLen; omega) (by omega) (by have := HE.out.size; simp; omega) ?_; intro v' w1 hown' hgrow _; have HO2 := Lib.hid hown'; have HE2 := Lib.hid (app_step HE.out HO.out hgrow); clear hown' hgrow HO)
          go_wp2
          go_roundw
          case rel => exact ⟨k + 1, by omega, by go_num, by rw [HD.out], by rw [HM.out, HI.out, List.nil_append, List.length_append, ints_app1, List.length_singleton, HML.out]; exact HO2.out, HE2.out⟩
          case measure => simp [intOf]; omega
      · have HM := Lib.hid (show putK L x (k + 1) = putK L x k ++ [y] by rw [putK_hi (by rw [HP.out]; omega) (by rw [HZ.out]; exact hlt), HY.out])
        have HD := Lib.hid (show decide (p < k + 1) = true from decide_eq_true (by omega))
        rw [decide_eq_true (show p < k by omega)]
        obtain ⟨m, hm⟩ : ∃ m, (putK L x k).length = m := ⟨_, rfl⟩
        have HML := Lib.hid hm
        rw [hm] at hml HO
        clear hm h1 h2
        go_wp2_with (at_builtin; refine wpList_append_own _ rfl _ _ 22 rfl w.heap.size 2 i0 (.int .i64 0) 1 8 Try.underlying22 hi hz0 hz1 hz2 rfl (by decide) _ _ _ rfl (HO.out.alloc _) ⟨_, 0, none⟩ 1 1 [.int .i64 y] rfl rfl (by first | exact one_cell_at _ _ _) (by intro u hu; simp at hu; subst hu; rfl) (by unfold maxLen; omega) (by omega) (by have := HE.out.size; simp; omega) ?_; intro v' w1 hown' hgrow _; have HO2 := Lib.hid hown'; have HE2 := Lib.hid (app_step HE.out HO.out hgrow); clear hown' hgrow HO)
        go_wp2
        go_roundw
        case rel => exact ⟨k + 1, by omega, by go_num, by rw [HD.out], by rw [HM.out, List.length_append, ints_app1, List.length_singleton, HML.out]; exact HO2.out, HE2.out⟩
        case measure => simp [intOf]; omega
    · obtain rfl : k = n := by omega
      have hlt' : ¬ (k : Int) < (k : Int) := by omega
      by_cases h1 : p < k
      · rw [decide_eq_true h1]
        have HM := Lib.hid (show putK L x k = M by rw [← HV.out, putZ_yes (by rw [HP.out, HZ.out]; exact h1), HZ.out])
        rw [HM.out] at HO
        obtain ⟨a', c', hv', ho⟩ := Own.of_row (e := 0) HO.out
        subst hv'
        have HO' := Lib.hid ho
        clear ho hml
        go_wp2
        go_ret
        exact ⟨a', c', rfl, HO'.out, HE.out⟩
      · rw [decide_eq_false h1]
        have HM := Lib.hid (show putK L x k ++ [x] = M by rw [← HV.out, putZ_no (by rw [HP.out, HZ.out]; exact h1), HZ.out])
        obtain ⟨m, hm⟩ : ∃ m, (putK L x k).length = m := ⟨_, rfl⟩
        have HML := Lib.hid hm
        rw [hm] at hml HO
        clear hm h1
        go_wp2_with (at_builtin; refine wpList_append_own _ rfl _ _ 22 rfl w.heap.size 2 i0 (.int .i64 0) 1 8 Try.underlying22 hi hz0 hz1 hz2 rfl (by decide) _ _ _ rfl (HO.out.alloc _) ⟨_, 0, none⟩ 1 1 [.int .i64 x] rfl rfl (by first | exact one_cell_at _ _ _) (by intro u hu; simp at hu; subst hu; rfl) (by unfold maxLen; omega) (by omega) (by have := HE.out.size; simp; omega) ?_; intro v' w1 hown' hgrow _; have HO2 := Lib.hid hown'; have HE2 := Lib.hid (app_step HE.out HO.out hgrow); clear hown' hgrow HO)
        have ho2 := HO2.out
        rw [← ints_app1, HM.out, show m + 1 = M.length by rw [← HM.out, List.length_append, HML.out]; rfl] at ho2
        obtain ⟨a', c', hv', ho⟩ := Own.of_row (e := 0) ho2
        subst hv'
        have HO' := Lib.hid ho
        clear ho ho2 hml
        go_wp2
        go_ret
        exact ⟨a', c', rfl, HO'.out, HE2.out⟩
end Go.Proofs.Ytfmjohpmfcmpoab
