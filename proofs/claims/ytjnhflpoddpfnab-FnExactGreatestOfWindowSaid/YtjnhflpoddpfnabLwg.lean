/- GreatestOfWindow by the other side. -/
import Derived.Test.YtjnhflpoddpfnabLw6
namespace Go.Proofs.Ytjnhflpoddpfnab
open Go.ChangeShapes Go.WideShapes Go.ChangeAt Go.RowKit
set_option linter.unusedVariables false
set_option maxRecDepth 100000 in
set_option maxHeartbeats 2000000 in
theorem c_spec_GreatestOfWindow (a : Option Addr) (n cap : Nat) (zs : List Int) (long : Int) (w : World) {rz : List Int} {rb : Bool} (hv : tellR mostI zs long = (rz, rb)) (hm : n ≤ 1048576) (h : Reads w a n (ints zs)) (hnc : n ≤ cap) :
    Calls Try.prog 19 #[.slice a n cap, .int .i64 long] w (RetSB 2 rz.length (ints rz) rb w) := by
  have hz := h.int.1
  have H := Lib.hid h
  have HM := Lib.hid hm
  cases hb : readB zs long
  · rw [tellR_no hb] at hv
    cases hv
    have HB := Lib.hid hb
    clear hb h hm hz
    go_enter Try.func19, Try.ntmps19
    go_wp2_with (go_at_call 42; refine (c_spec_l06List _ _ _ zs long _ HB.out HM.out H.out).mono ?_; rintro e w' ⟨rfl, rfl⟩)
    go_ret2
    exact RetSB.nil _ _
  · rw [tellR_yes hb] at hv
    cases hv
    have ok := read_ok hb
    have HB := Lib.hid hb
    obtain ⟨L, hL⟩ : ∃ L : Nat, long.toNat = L := ⟨_, rfl⟩
    have l1 := ok.l1
    have l2 := ok.l2
    obtain rfl : long = (L : Int) := by omega
    rw [hL]
    have hL1 : 1 ≤ L := by omega
    have hL2 : L ≤ 128 := by omega
    have hn1 : 1 ≤ n := by have := ok.n1; omega
    have hn2 : n ≤ 128 := by have := ok.n2; omega
    have hnI : (n : Int) ≤ 128 := by omega
    rcases h.int.2 with h0 | ⟨b, off, rfl, hc⟩
    · omega
    have HC := Lib.hid hc
    have HZ := Lib.hid hz
    have HRL := Lib.hid (fun i (hi : i < n) => reads_last hz hc L i hi)
    have HTL := Lib.hid (show (tellZ mostI zs L).length = n by rw [tellZ_length]; exact hz)
    obtain ⟨i0, hi, hz0, hz1, hz2⟩ := info_parts info_i64
    clear hb h hm hz hc ok l1 l2 hL
    go_enter Try.func19, Try.ntmps19
    go_wp2_with (go_at_call 42; refine (c_spec_l06List _ _ _ zs (L : Int) _ HB.out HM.out H.out).mono ?_; rintro e w' ⟨rfl, rfl⟩)
    go_loopw [6, 7] (fun v i wr => ∃ k : Nat, k ≤ n ∧ i = .int .i64 k ∧ wr.ownsRow w.heap.size 2 1 v k (ints ((tellZ mostI zs L).take k)) ∧ Ext w wr) (fun _ i _ => n - (intOf i).toNat)
    case atStart => exact ⟨0, Nat.zero_le _, rfl, World.ownsRow_made _ _ _ (Nat.le_refl _) (Nat.zero_le _) rfl, Ext.alloc _ _⟩
    case round =>
      obtain ⟨k, hk, rfl, hown, hext⟩ := hrel
      have HO := Lib.hid hown
      have HE := Lib.hid hext
      by_cases hlt : k < n
      · have hltI : (k : Int) < (n : Int) := by omega
        obtain ⟨d, hd⟩ : ∃ d, k + 1 - (k + 1 - L) = d := ⟨_, rfl⟩
        obtain ⟨lz, hlz⟩ : ∃ lz, lastZ zs L k = lz := ⟨_, rfl⟩
        have hd1 : 1 ≤ d := by omega
        have hd2 : d ≤ 128 := by omega
        have hRL := HRL.out k hlt
        rw [hlz] at hRL
        have hlen : lz.length = d := by have := hRL.int.1; omega
        obtain ⟨x, hx⟩ : ∃ x, zs[k]?.getD 0 = x := ⟨_, rfl⟩
        have hcell := HE.out.some (HC.out k hlt)
        rw [hx] at hcell
        have HX := Lib.hid (show getI lz (d - 1) = x by
          rw [← hlz, lastZ_get zs L k (d - 1) (by omega), show k + 1 - L + (d - 1) = k by omega]; exact hx)
        have HDD := Lib.hid hd
        have HLEN := Lib.hid hlen
        have HFT := Lib.hid (show (tellZ mostI zs L)[k]?.getD 0 = lz.foldl maxI x by
          have h1 := tellZ_get mostI zs L k (by rw [HZ.out]; exact hlt)
          unfold getI at h1
          rw [h1, hlz, ← HX.out, fold_from maxI_ok lz (d - 1) (by omega)]; rfl)
        have HT := Lib.hid (ints_snoc (tellZ mostI zs L) k (by rw [HTL.out]; exact hlt))
        have HRR := Lib.hid hRL
        clear hown hext hx hRL hlen hlz
        generalize hwr0 : wr = wr0 at *
        go_wp2_with (go_at_call 43; refine (c_spec_l06Last b off n cap k L _ hn2 hlt hnc hL1 hL2).mono ?_; rw [HDD.out]; rintro e w' ⟨rfl, rfl⟩)
        go_loopw [8, 10] (fun m j wr => ∃ J : Nat, J ≤ d ∧ j = .int .i64 J ∧ m = .int .i64 ((lz.take J).foldl maxI x) ∧ Ext wr0 wr) (fun _ j _ => d - (intOf j).toNat)
        case atStart => exact ⟨0, Nat.zero_le _, rfl, rfl, Ext.refl _⟩
        case round =>
          obtain ⟨J, hJ, rfl, rfl, hw⟩ := hrel
          have HW := Lib.hid hw
          obtain ⟨y, hy⟩ : ∃ y, (lz.take J).foldl maxI x = y := ⟨_, rfl⟩
          have HY := Lib.hid hy
          rw [hy]
          clear hw hy
          by_cases hJl : J < d
          · have hJI : (J : Int) < (d : Int) := by omega
            obtain ⟨z, hz⟩ : ∃ z, lz[J]?.getD 0 = z := ⟨_, rfl⟩
            have hcz : wr.cell? ⟨b, off + (k + 1 - L) + J, none⟩ = some (.int .i64 z) := by
              rcases HRR.out.int.2 with h0 | ⟨b', o', he, hcc⟩
              · omega
              · cases he; rw [← hz]; exact HW.out.some (HE.out.some (hcc J (by omega)))
            have HZZ := Lib.hid (show (lz.take (J + 1)).foldl maxI x = maxI y z by rw [fold_take lz x J (by rw [HLEN.out]; exact hJl), HY.out]; unfold getI; rw [hz])
            have HMM := Lib.hid (show max y z = maxI y z by unfold maxI; omega)
            clear hz
            go_wp2_with (go_at_call 47; refine (c_l00Max_l _ _ _ _ HMM.out).mono ?_; rintro e w' ⟨rfl, rfl⟩)
            go_roundw
            case rel => exact ⟨J + 1, by omega, by go_num, by rw [HZZ.out], HW.out⟩
            case measure => simp [intOf]; omega
          · have hJd : J = d := by omega
            have HYF := Lib.hid (show (tellZ mostI zs L)[k]?.getD 0 = y by rw [HFT.out, ← HY.out, hJd, ← HLEN.out, List.take_length])
            have hJI : ¬ (J : Int) < (d : Int) := by omega
            clear hJd
            go_wp2_with (at_builtin; refine wpList_append_own _ rfl _ _ 22 rfl w.heap.size 2 i0 (.int .i64 0) 1 8 Try.underlying22 hi hz0 hz1 hz2 rfl (by decide) _ _ _ rfl ((owns_on HO.out ?c0).alloc _) ⟨_, 0, none⟩ 1 1 [.int .i64 y] rfl rfl ?c1 ?c2 ?c3 ?c4 ?c5 ?_)
            case c0 => exact HW.out
            try (case c1 => exact one_cell_at _ _ _)
            case c2 => first | rfl | (intro u hu; simp at hu; subst hu; rfl)
            case c3 => unfold maxLen; omega
            case c4 => omega
            case c5 => have := HE.out.size; have := HW.out.size; simp; omega
            intro v' w1 hown' hgrow _
            have HO' := Lib.hid hown'
            have HE' := Lib.hid (app_step (HE.out.trans HW.out) (owns_on HO.out HW.out) hgrow)
            clear hown' hgrow
            go_wp2
            go_roundw
            case rel => exact ⟨k + 1, by omega, by go_num, by rw [HT.out, HYF.out]; exact HO'.out, HE'.out⟩
            case measure => simp [intOf]; omega
      · have hkl : k = n := by omega
        subst hkl
        obtain ⟨a', c', hv, ho⟩ := Own.of_row (e := 0) hown
        subst hv
        rw [List.take_of_length_le (by rw [HTL.out]; exact Nat.le_refl _)] at ho
        have HO' := Lib.hid ho
        clear ho hown hext
        go_wp2
        go_ret2
        exact ⟨a', c', by first | (rw [HTL.out]; done) | (rw [HTL.out]; rfl), by rw [HTL.out]; exact HO'.out, HE.out⟩
end Go.Proofs.Ytjnhflpoddpfnab
