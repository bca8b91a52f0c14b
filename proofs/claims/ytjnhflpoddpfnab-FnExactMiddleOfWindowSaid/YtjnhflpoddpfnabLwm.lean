/- MiddleOfWindow by the other side. -/
import Derived.Test.YtjnhflpoddpfnabLw6
import Derived.Test.YtjnhflpoddpfnabL6s
import Derived.Test.YtjnhflpoddpfnabMdk
namespace Go.Proofs.Ytjnhflpoddpfnab
open Go.ChangeShapes Go.WideShapes Go.ChangeAt Go.RowKit
set_option linter.unusedVariables false
set_option maxRecDepth 100000 in
set_option maxHeartbeats 2000000 in
theorem c_spec_MiddleOfWindow (a : Option Addr) (n cap : Nat) (zs : List Int) (long : Int) (w : World) {rz : List Int} {rb : Bool} (hv : tellR midI zs long = (rz, rb)) (hm : n ≤ 1048576) (h : Reads w a n (ints zs)) (hnc : n ≤ cap) :
    Calls Try.prog 21 #[.slice a n cap, .int .i64 long] w (RetSB 2 rz.length (ints rz) rb w) := by
  have hz := h.int.1
  have H := Lib.hid h
  have HM := Lib.hid hm
  cases hb : readB zs long
  · rw [tellR_no hb] at hv
    cases hv
    have HB := Lib.hid hb
    clear hb h hm hz
    go_enter Try.func21, Try.ntmps21
    go_wp2_with (go_at_call 42; refine (c_spec_l06List _ _ _ zs long _ HB.out HM.out H.out).mono ?_; rintro e w' ⟨rfl, rfl⟩)
    go_ret2
    exact RetSB.nil _ _
  · rw [tellR_yes hb] at hv
    cases hv
    have ok := read_ok hb
    have HB := Lib.hid hb
    obtain ⟨L, hL⟩ : ∃ L : Nat, long.toNat = L := ⟨_, rfl⟩
    have l1 := ok.l1
    have l2 := ok.l2
    obtain rfl : long = (L : Int) := by omega
    rw [hL]
    have hL1 : 1 ≤ L := by omega
    have hL2 : L ≤ 128 := by omega
    have hn1 : 1 ≤ n := by have := ok.n1; omega
    have hn2 : n ≤ 128 := by have := ok.n2; omega
    have hnI : (n : Int) ≤ 128 := by omega
    rcases h.int.2 with h0 | ⟨b, off, rfl, hc⟩
    · omega
    have HZ := Lib.hid hz
    have HRL := Lib.hid (fun i (hi : i < n) => reads_last hz hc L i hi)
    have HTL := Lib.hid (show (tellZ midI zs L).length = n by rw [tellZ_length]; exact hz)
    obtain ⟨i0, hi, hz0, hz1, hz2⟩ := info_parts info_i64
    clear hb h hm hz hc ok l1 l2 hL
    go_enter Try.func21, Try.ntmps21
    go_wp2_with (go_at_call 42; refine (c_spec_l06List _ _ _ zs (L : Int) _ HB.out HM.out H.out).mono ?_; rintro e w' ⟨rfl, rfl⟩)
    go_loopw [6, 7] (fun v i wr => ∃ k : Nat, k ≤ n ∧ i = .int .i64 k ∧ wr.ownsRow w.heap.size 2 1 v k (ints ((tellZ midI zs L).take k)) ∧ Ext w wr) (fun _ i _ => n - (intOf i).toNat)
    case atStart => exact ⟨0, Nat.zero_le _, rfl, World.ownsRow_made _ _ _ (Nat.le_refl _) (Nat.zero_le _) rfl, Ext.alloc _ _⟩
    case round =>
      obtain ⟨k, hk, rfl, hown, hext⟩ := hrel
      have HO := Lib.hid hown
      have HE := Lib.hid hext
      by_cases hlt : k < n
      · have hltI : (k : Int) < (n : Int) := by omega
        obtain ⟨d, hd⟩ : ∃ d, k + 1 - (k + 1 - L) = d := ⟨_, rfl⟩
        obtain ⟨lz, hlz⟩ : ∃ lz, lastZ zs L k = lz := ⟨_, rfl⟩
        have hd1 : 1 ≤ d := by omega
        have hd2 : d ≤ 128 := by omega
        have hRL := HRL.out k hlt
        rw [hlz] at hRL
        have hlen : lz.length = d := by have := hRL.int.1; omega
        have HDD := Lib.hid hd
        have HFT := Lib.hid (show (tellZ midI zs L)[k]?.getD 0 = midI lz by
          have h1 := tellZ_get midI zs L k (by rw [HZ.out]; exact hlt)
          unfold getI at h1
          rw [h1, hlz])
        have HT := Lib.hid (ints_snoc (tellZ midI zs L) k (by rw [HTL.out]; exact hlt))
        have HRR := Lib.hid (show Reads wr (some ⟨b, off + (k + 1 - L), none⟩) d (ints lz) by rw [← hd]; exact hRL.on hext)
        obtain ⟨q, hq⟩ : ∃ q, (d - 1) / 2 = q := ⟨_, rfl⟩
        have hql : q < d := by omega
        have e1 : ((d : Int) - 1) / 2 = (q : Int) := by omega
        have e2 : (q : Int) < (d : Int) := by omega
        have e3 : (0 : Int) ≤ (q : Int) := by omega
        have e4 : (1 : Int) ≤ (d : Int) := by omega
        have e5 : (d : Int) ≤ 128 := by omega
        obtain ⟨y, hy⟩ : ∃ y, midI lz = y := ⟨_, rfl⟩
        have HY := Lib.hid (show (sortZ lz)[q]?.getD 0 = y by rw [← hy]; unfold midI; rw [hlen, hq])
        have HYY := Lib.hid hy
        clear hown hext hRL hlen hlz hd hq hy
        go_wp2_with (go_at_call 43; refine (c_spec_l06Last b off n cap k L _ hn2 hlt hnc hL1 hL2).mono ?_; rw [HDD.out]; rintro e w' ⟨rfl, rfl⟩)
        refine (c_spec_l06Sorted _ _ _ lz _ hd1 (by omega) HRR.out).mono ?_; rintro e w2 ⟨a2, c2, rfl, o2, x2⟩
        have HX2 := Lib.hid (HE.out.trans x2)
        have HO2 := Lib.hid (owns_on HO.out x2)
        rcases o2.reads.int.2 with h0 | ⟨b2, f2, rfl, hc2⟩
        · omega
        have hcell := hc2 q hql
        rw [HY.out] at hcell
        clear o2 x2 hc2
        go_wp2_with (at_builtin; refine wpList_append_own _ rfl _ _ 22 rfl w.heap.size 2 i0 (.int .i64 0) 1 8 Try.underlying22 hi hz0 hz1 hz2 rfl (by decide) _ _ _ rfl (HO2.out.alloc _) ⟨_, 0, none⟩ 1 1 [.int .i64 y] rfl rfl ?c1 ?c2 ?c3 ?c4 ?c5 ?_)
        try (case c1 => exact one_cell_at _ _ _)
        case c2 => first | rfl | (intro u hu; simp at hu; subst hu; rfl)
        case c3 => unfold maxLen; omega
        case c4 => omega
        case c5 => have := HX2.out.size; simp; omega
        intro v' w1 hown' hgrow _
        have HO' := Lib.hid hown'
        have HE' := Lib.hid (app_step HX2.out HO2.out hgrow)
        clear hown' hgrow
        go_wp2
        go_roundw
        case rel => exact ⟨k + 1, by omega, by go_num, by rw [HT.out, HFT.out, HYY.out]; exact HO'.out, HE'.out⟩
        case measure => simp [intOf]; omega
      · have hkl : k = n := by omega
        subst hkl
        obtain ⟨a', c', hv, ho⟩ := Own.of_row (e := 0) hown
        subst hv
        rw [List.take_of_length_le (by rw [HTL.out]; exact Nat.le_refl _)] at ho
        have HO' := Lib.hid ho
        clear ho hown hext
        go_wp2
        go_ret2
        exact ⟨a', c', by first | (rw [HTL.out]; done) | (rw [HTL.out]; rfl), by rw [HTL.out]; exact HO'.out, HE.out⟩
end Go.Proofs.Ytjnhflpoddpfnab
