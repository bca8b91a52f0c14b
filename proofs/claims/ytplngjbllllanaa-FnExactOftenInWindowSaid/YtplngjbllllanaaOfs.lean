/- OftenInWindow by the other side. -/
import Derived.Test.YtplngjbllllanaaLw6
import Derived.Test.YtplngjbllllanaaL6s
import Derived.Test.YtplngjbllllanaaOfa
import Derived.BigQuiet
namespace Go.Proofs.Ytplngjbllllanaa
open Go.ChangeShapes Go.WideShapes Go.ChangeAt Go.RowKit
set_option linter.unusedVariables false
set_option maxRecDepth 100000 in
set_option maxHeartbeats 2000000 in
theorem c_spec_OftenInWindow (a : Option Addr) (n cap : Nat) (zs : List Int) (long : Int) (w : World) {rz : List Int} {rb : Bool} (hv : tellR oftI zs long = (rz, rb)) (hm : n ≤ 1048576) (h : Reads w a n (ints zs)) (hnc : n ≤ cap) :
    Calls Try.prog 36 #[.slice a n cap, .int .i64 long] w (RetSB 2 rz.length (ints rz) rb w) := by
  have hz := h.int.1
  have H := Lib.hid h
  have HM := Lib.hid hm
  cases hb : readB zs long
  · rw [tellR_no hb] at hv
    cases hv
    have HB := Lib.hid hb
    clear hb h hm hz
    go_enter Try.func36, Try.ntmps36
    go_wp2_with (go_at_call 87; refine (c_spec_l06List _ _ _ zs long _ HB.out HM.out H.out).mono ?_; rintro e w' ⟨rfl, rfl⟩)
    go_ret2
    exact RetSB.nil _ _
  · rw [tellR_yes hb] at hv
    cases hv
    have ok := read_ok hb
    have HB := Lib.hid hb
    obtain ⟨L, hL⟩ : ∃ L : Nat, long.toNat = L := ⟨_, rfl⟩
    have l1 := ok.l1
    have l2 := ok.l2
    obtain rfl : long = (L : Int) := by omega
    rw [hL]
    have hL1 : 1 ≤ L := by omega
    have hL2 : L ≤ 128 := by omega
    have hn1 : 1 ≤ n := by have := ok.n1; omega
    have hn2 : n ≤ 128 := by have := ok.n2; omega
    have hnI : (n : Int) ≤ 128 := by omega
    rcases h.int.2 with h0 | ⟨b, off, rfl, hc⟩
    · omega
    have HZ := Lib.hid hz
    have HRL := Lib.hid (fun i (hi : i < n) => reads_last hz hc L i hi)
    have HTL := Lib.hid (show (tellZ oftI zs L).length = n by rw [tellZ_length]; exact hz)
    obtain ⟨i0, hi, hz0, hz1, hz2⟩ := info_parts info_i64
    clear hb h hm hz hc ok l1 l2 hL
    go_enter Try.func36, Try.ntmps36
    go_wp2_with (go_at_call 87; refine (c_spec_l06List _ _ _ zs (L : Int) _ HB.out HM.out H.out).mono ?_; rintro e w' ⟨rfl, rfl⟩)
    go_loopw [6, 7] (fun v i wr => ∃ k : Nat, k ≤ n ∧ i = .int .i64 k ∧ wr.ownsRow w.heap.size 2 1 v k (ints ((tellZ oftI zs L).take k)) ∧ Ext w wr) (fun _ i _ => n - (intOf i).toNat)
    case atStart => exact ⟨0, Nat.zero_le _, rfl, World.ownsRow_made _ _ _ (Nat.le_refl _) (Nat.zero_le _) rfl, Ext.alloc _ _⟩
    case round =>
      obtain ⟨k, hk, rfl, hown, hext⟩ := hrel
      have HO := Lib.hid hown
      have HE := Lib.hid hext
      by_cases hlt : k < n
      · have hltI : (k : Int) < (n : Int) := by omega
        obtain ⟨d, hd⟩ : ∃ d, k + 1 - (k + 1 - L) = d := ⟨_, rfl⟩
        obtain ⟨lz, hlz⟩ : ∃ lz, lastZ zs L k = lz := ⟨_, rfl⟩
        have hd1 : 1 ≤ d := by omega
        have hd2 : d ≤ 128 := by omega
        have hRL := HRL.out k hlt
        rw [hlz] at hRL
        have hlen : lz.length = d := by have := hRL.int.1; omega
        have HDD := Lib.hid hd
        have HFT := Lib.hid (show (tellZ oftI zs L)[k]?.getD 0 = oftI lz by
          have h1 := tellZ_get oftI zs L k (by rw [HZ.out]; exact hlt)
          unfold getI at h1
          rw [h1, hlz])
        have HT := Lib.hid (ints_snoc (tellZ oftI zs L) k (by rw [HTL.out]; exact hlt))
        have HRR := Lib.hid (show Reads wr (some ⟨b, off + (k + 1 - L), none⟩) d (ints lz) by rw [← hd]; exact hRL.on hext)
        have e4 : (1 : Int) ≤ (d : Int) := by omega
        have e5 : (d : Int) ≤ 128 := by omega
        have e6 : (0 : Int) < (d : Int) := by omega
        obtain ⟨y, hy⟩ : ∃ y, oftI lz = y := ⟨_, rfl⟩
        have HY := Lib.hid (show (modeAt (getI (sortZ lz)) d).1 = y by rw [← hy, ← hlen]; exact oft_mode (by omega))
        have HYY := Lib.hid hy
        clear hown hext hRL hlen hlz hd hy
        go_wp2_with (go_at_call 89; refine (c_spec_l06Last b off n cap k L _ hn2 hlt hnc hL1 hL2).mono ?_; rw [HDD.out]; rintro e w' ⟨rfl, rfl⟩)
        refine (c_spec_l06Sorted _ _ _ lz _ hd1 (by omega) HRR.out).mono ?_; rintro e w2 ⟨a2, c2, rfl, o2, x2⟩
        have HX2 := Lib.hid (HE.out.trans x2)
        have HO2 := Lib.hid (owns_on HO.out x2)
        rcases o2.reads.int.2 with h0 | ⟨b2, f2, rfl, hc2⟩
        · omega
        obtain ⟨fs, hfs⟩ : ∃ fs : Nat → Int, getI (sortZ lz) = fs := ⟨_, rfl⟩
        rw [hfs] at HY
        have HC2 := Lib.hid (show ∀ i, i < d → w2.cell? ⟨b2, f2 + i, none⟩ = some (.int .i64 (fs i)) from fun i hi => by rw [← hfs]; exact hc2 i hi)
        have c0 := HC2.out 0 hd1
        have c0 : w2.cell? ⟨b2, f2, none⟩ = some (.int .i64 (fs 0)) := c0
        clear o2 x2 hc2 hfs
        go_wp2
        go_loopw [9, 10, 11, 12] (fun bb mm cc kk wq => ∃ j qd : Nat, j ≤ d ∧ kk = .int .i64 j ∧ bb = .int .i64 (modeAt fs j).1 ∧ mm = .int .i64 ((modeAt fs j).2 : Nat) ∧ cc = .int .i64 ((if j = 0 then 0 else runAt fs (j - 1) : Nat) : Int) ∧ wq = w2.drewN qd) (fun _ _ _ kk _ => d - (intOf kk).toNat)
        case atStart => exact ⟨0, 0, Nat.zero_le _, rfl, rfl, rfl, rfl, rfl⟩
        case round =>
          obtain ⟨j, qd, hj, rfl, rfl, rfl, rfl, hw⟩ := hrel
          have HW := Lib.hid hw
          clear hw c0
          by_cases hjd : j < d
          · have hrl := runAt_le fs j
            have hml := modeAt_le fs j
            have HMY := Lib.hid (show (modeAt fs j).2 < runAt fs j → modeAt fs (j + 1) = (fs j, runAt fs j) from modeAt_yes)
            have HMN := Lib.hid (show ¬ (modeAt fs j).2 < runAt fs j → modeAt fs (j + 1) = modeAt fs j from modeAt_no)
            obtain ⟨bj, hbj⟩ : ∃ x, (modeAt fs j).1 = x := ⟨_, rfl⟩
            obtain ⟨mj, hmj⟩ : ∃ x, (modeAt fs j).2 = x := ⟨_, rfl⟩
            obtain ⟨rj, hrj⟩ : ∃ x, runAt fs j = x := ⟨_, rfl⟩
            obtain ⟨cp, hcp⟩ : ∃ x, (if j = 0 then 0 else runAt fs (j - 1)) = x := ⟨_, rfl⟩
            have HBM := Lib.hid (show modeAt fs j = (bj, mj) by rw [← hbj, ← hmj])
            have HRJ := Lib.hid hrj
            rw [hmj] at hml ⊢
            rw [hmj, hrj] at HMY HMN
            rw [hbj, hcp]
            rw [hrj] at hrl
            have r1 := hrl.1
            have r2 := hrl.2
            have hcl : cp ≤ 128 := by
              rw [← hcp]
              split
              · omega
              · have := (runAt_le fs (j - 1)).2; omega
            have r1I : (1 : Int) ≤ (rj : Int) := by omega
            have r2I : (rj : Int) ≤ 128 := by omega
            have m2I : (mj : Int) ≤ 128 := by omega
            have c2I : (cp : Int) ≤ 128 := by omega
            have hjI : (j : Int) < (d : Int) := by omega
            have cj : wr.cell? ⟨b2, f2 + j, none⟩ = some (.int .i64 (fs j)) := by rw [HW.out]; exact (Ext.drewN w2 qd).some (HC2.out j hjd)
            have hz := HRJ.out
            by_cases hj0 : j = 0
            · have hcv : cp + 1 = rj := by rw [← hcp, if_pos hj0, ← hrj, hj0]; rfl
              have HCV := Lib.hid (show ((cp : Nat) : Int) + 1 = ((rj : Nat) : Int) by omega)
              have g1 : ¬ (0 : Int) < (j : Int) := by omega
              have g2 : decide ((0 : Int) < (j : Int)) = false := decide_eq_false (by omega)
              have g3 : decide (0 < j) = false := decide_eq_false (by omega)
              have cj0 : wr.cell? ⟨b2, f2, none⟩ = some (.int .i64 (fs j)) := by rw [hj0] at cj ⊢; exact cj
              obtain ⟨x, hx⟩ : ∃ x, fs j = x := ⟨_, rfl⟩
              have HX := Lib.hid hx
              rw [hx] at cj cj0
              clear hx
              by_cases hlt9 : mj < rj
              · skip
                have HL := Lib.hid (show modeAt fs (j + 1) = (fs j, rj) from HMY.out hlt9)
                have hl1 : (mj : Int) < (cp : Int) + 1 := by omega
                have hl2 : (mj : Int) < (rj : Int) := by omega
                clear hlt9 hbj hmj hcp hrj hml hrl hz
                go_wp2
                go_quiet (fail)
                go_wp2
                go_roundw
                case rel => exact ⟨j + 1, _, by omega, by go_num, by first | (rw [HL.out]; done) | (rw [HL.out]; rfl) | (rw [HL.out, HX.out]; done) | (rw [HL.out]; show _ = Value.int .i64 (fs j); rw [HX.out]), by first | (rw [HL.out]; done) | (rw [HL.out]; rfl) | (rw [HL.out, ← HCV.out]; done) | (rw [HL.out]; show _ = Value.int .i64 ((rj : Nat) : Int); rw [← HCV.out]), by rw [if_neg (Nat.succ_ne_zero j), Nat.add_sub_cancel, HRJ.out]; first | rfl | (rw [← HCV.out]; done) | (rw [HCV.out]; done) | (rw [← HCV.out]; rfl), by rw [HW.out, World.drewN_drewN]⟩
                case measure => simp [intOf]; omega
              · skip
                have HL := Lib.hid (show modeAt fs (j + 1) = (bj, mj) by rw [HMN.out hlt9, HBM.out])
                have hl1 : ¬ (mj : Int) < (cp : Int) + 1 := by omega
                have hl2 : ¬ (mj : Int) < (rj : Int) := by omega
                clear hlt9 hbj hmj hcp hrj hml hrl hz
                go_wp2
                go_quiet (fail)
                go_wp2
                go_roundw
                case rel => exact ⟨j + 1, _, by omega, by go_num, by first | (rw [HL.out]; done) | (rw [HL.out]; rfl) | (rw [HL.out, HX.out]; done) | (rw [HL.out]; show _ = Value.int .i64 (fs j); rw [HX.out]), by first | (rw [HL.out]; done) | (rw [HL.out]; rfl) | (rw [HL.out, ← HCV.out]; done) | (rw [HL.out]; show _ = Value.int .i64 ((rj : Nat) : Int); rw [← HCV.out]), by rw [if_neg (Nat.succ_ne_zero j), Nat.add_sub_cancel, HRJ.out]; first | rfl | (rw [← HCV.out]; done) | (rw [HCV.out]; done) | (rw [← HCV.out]; rfl), by rw [HW.out, World.drewN_drewN]⟩
                case measure => simp [intOf]; omega
            · obtain ⟨i, hi⟩ : ∃ i, j = i + 1 := ⟨j - 1, by omega⟩
              have ci : wr.cell? ⟨b2, f2 + i, none⟩ = some (.int .i64 (fs i)) := by rw [HW.out]; exact (Ext.drewN w2 qd).some (HC2.out i (by omega))
              have g1 : (0 : Int) < (j : Int) := by omega
              have g2 : decide ((0 : Int) < (j : Int)) = true := decide_eq_true (by omega)
              have g3 : decide (0 < j) = true := decide_eq_true (by omega)
              have g4 : 0 < j := by omega
              have i1 : (j : Int) - 1 = (i : Int) := by omega
              have i2 : IntKind.i64.wrap ((j : Int) - 1) = (i : Int) := by rw [i1, IntKind.wrap_i64]; omega
              have i3 : (i : Int) < (d : Int) := by omega
              have i4 : (0 : Int) ≤ (i : Int) := by omega
              by_cases hxy : fs j = fs i
              · have hcv : cp + 1 = rj := by rw [← hcp, if_neg hj0, ← hrj, hi, Nat.add_sub_cancel]; rw [hi] at hxy; show _ = (if _ then _ else _); rw [if_pos hxy]
                have HCV := Lib.hid (show ((cp : Nat) : Int) + 1 = ((rj : Nat) : Int) by omega)
                rw [← hxy] at ci
                obtain ⟨x, hx⟩ : ∃ x, fs j = x := ⟨_, rfl⟩
                have HX := Lib.hid hx
                rw [hx] at cj ci
                clear hx hxy hi
                by_cases hlt9 : mj < rj
                · skip
                  have HL := Lib.hid (show modeAt fs (j + 1) = (fs j, rj) from HMY.out hlt9)
                  have hl1 : (mj : Int) < (cp : Int) + 1 := by omega
                  have hl2 : (mj : Int) < (rj : Int) := by omega
                  clear hlt9 hbj hmj hcp hrj hml hrl hz
                  go_wp2
                  go_quiet (fail)
                  go_wp2
                  go_roundw
                  case rel => exact ⟨j + 1, _, by omega, by go_num, by first | (rw [HL.out]; done) | (rw [HL.out]; rfl) | (rw [HL.out, HX.out]; done) | (rw [HL.out]; show _ = Value.int .i64 (fs j); rw [HX.out]), by first | (rw [HL.out]; done) | (rw [HL.out]; rfl) | (rw [HL.out, ← HCV.out]; done) | (rw [HL.out]; show _ = Value.int .i64 ((rj : Nat) : Int); rw [← HCV.out]), by rw [if_neg (Nat.succ_ne_zero j), Nat.add_sub_cancel, HRJ.out]; first | rfl | (rw [← HCV.out]; done) | (rw [HCV.out]; done) | (rw [← HCV.out]; rfl), by rw [HW.out, World.drewN_drewN]⟩
                  case measure => simp [intOf]; omega
                · skip
                  have HL := Lib.hid (show modeAt fs (j + 1) = (bj, mj) by rw [HMN.out hlt9, HBM.out])
                  have hl1 : ¬ (mj : Int) < (cp : Int) + 1 := by omega
                  have hl2 : ¬ (mj : Int) < (rj : Int) := by omega
                  clear hlt9 hbj hmj hcp hrj hml hrl hz
                  go_wp2
                  go_quiet (fail)
                  go_wp2
                  go_roundw
                  case rel => exact ⟨j + 1, _, by omega, by go_num, by first | (rw [HL.out]; done) | (rw [HL.out]; rfl) | (rw [HL.out, HX.out]; done) | (rw [HL.out]; show _ = Value.int .i64 (fs j); rw [HX.out]), by first | (rw [HL.out]; done) | (rw [HL.out]; rfl) | (rw [HL.out, ← HCV.out]; done) | (rw [HL.out]; show _ = Value.int .i64 ((rj : Nat) : Int); rw [← HCV.out]), by rw [if_neg (Nat.succ_ne_zero j), Nat.add_sub_cancel, HRJ.out]; first | rfl | (rw [← HCV.out]; done) | (rw [HCV.out]; done) | (rw [← HCV.out]; rfl), by rw [HW.out, World.drewN_drewN]⟩
                  case measure => simp [intOf]; omega
              · have hcv : rj = 1 := by rw [← hrj, hi]; rw [hi] at hxy; show (if _ then _ else _) = _; rw [if_neg hxy]
                have HCV := Lib.hid (show (1 : Int) = ((rj : Nat) : Int) by omega)
                obtain ⟨x, hx⟩ : ∃ x, fs j = x := ⟨_, rfl⟩
                obtain ⟨x', hx'⟩ : ∃ x, fs i = x := ⟨_, rfl⟩
                have HX := Lib.hid hx
                rw [hx] at cj hxy
                rw [hx'] at ci hxy
                have hxy2 : (x == x') = false := by simpa using hxy
                have hxy3 : (x != x') = true := by simpa using hxy
                clear hx hx' hi
                by_cases hlt9 : mj < rj
                · skip
                  have HL := Lib.hid (show modeAt fs (j + 1) = (fs j, rj) from HMY.out hlt9)
                  have hl1 : (mj : Int) < (1 : Int) := by omega
                  have hl2 : (mj : Int) < (rj : Int) := by omega
                  clear hlt9 hbj hmj hcp hrj hml hrl hz
                  go_wp2
                  go_quiet (fail)
                  go_wp2
                  go_roundw
                  case rel => exact ⟨j + 1, _, by omega, by go_num, by first | (rw [HL.out]; done) | (rw [HL.out]; rfl) | (rw [HL.out, HX.out]; done) | (rw [HL.out]; show _ = Value.int .i64 (fs j); rw [HX.out]), by first | (rw [HL.out]; done) | (rw [HL.out]; rfl) | (rw [HL.out, ← HCV.out]; done) | (rw [HL.out]; show _ = Value.int .i64 ((rj : Nat) : Int); rw [← HCV.out]), by rw [if_neg (Nat.succ_ne_zero j), Nat.add_sub_cancel, HRJ.out]; first | rfl | (rw [← HCV.out]; done) | (rw [HCV.out]; done) | (rw [← HCV.out]; rfl), by rw [HW.out, World.drewN_drewN]⟩
                  case measure => simp [intOf]; omega
                · skip
                  have HL := Lib.hid (show modeAt fs (j + 1) = (bj, mj) by rw [HMN.out hlt9, HBM.out])
                  have hl1 : ¬ (mj : Int) < (1 : Int) := by omega
                  have hl2 : ¬ (mj : Int) < (rj : Int) := by omega
                  clear hlt9 hbj hmj hcp hrj hml hrl hz
                  go_wp2
                  go_quiet (fail)
                  go_wp2
                  go_roundw
                  case rel => exact ⟨j + 1, _, by omega, by go_num, by first | (rw [HL.out]; done) | (rw [HL.out]; rfl) | (rw [HL.out, HX.out]; done) | (rw [HL.out]; show _ = Value.int .i64 (fs j); rw [HX.out]), by first | (rw [HL.out]; done) | (rw [HL.out]; rfl) | (rw [HL.out, ← HCV.out]; done) | (rw [HL.out]; show _ = Value.int .i64 ((rj : Nat) : Int); rw [← HCV.out]), by rw [if_neg (Nat.succ_ne_zero j), Nat.add_sub_cancel, HRJ.out]; first | rfl | (rw [← HCV.out]; done) | (rw [HCV.out]; done) | (rw [← HCV.out]; rfl), by rw [HW.out, World.drewN_drewN]⟩
                  case measure => simp [intOf]; omega
          · have hjk : j = d := by omega
            have HBY := Lib.hid (show (modeAt fs j).1 = y by rw [hjk]; exact HY.out)
            have hjn : ¬ (j : Int) < (d : Int) := by omega
            have HX2 := Lib.hid (show Ext w wr by rw [HW.out]; exact HX2.out.trans (Ext.drewN w2 qd))
            have HO2 := Lib.hid (show wr.ownsRow w.heap.size 2 1 _ k (ints ((tellZ oftI zs L).take k)) by rw [HW.out]; exact owns_on HO2.out (Ext.drewN w2 qd))
            rw [HBY.out]
            clear hjk
            go_wp2_with (at_builtin; refine wpList_append_own _ rfl _ _ 40 rfl w.heap.size 2 i0 (.int .i64 0) 1 8 Try.underlying40 hi hz0 hz1 hz2 rfl (by decide) _ _ _ rfl (HO2.out.alloc _) ⟨_, 0, none⟩ 1 1 [.int .i64 y] rfl rfl ?c1 ?c2 ?c3 ?c4 ?c5 ?_)
            try (case c1 => exact one_cell_at _ _ _)
            case c2 => first | rfl | (intro u hu; simp at hu; subst hu; rfl)
            case c3 => unfold maxLen; omega
            case c4 => omega
            case c5 => have := HX2.out.size; simp; omega
            intro v' w1 hown' hgrow _
            have HO' := Lib.hid hown'
            have HE' := Lib.hid (app_step HX2.out HO2.out hgrow)
            clear hown' hgrow
            go_wp2
            go_roundw
            case rel => exact ⟨k + 1, by omega, by go_num, by rw [HT.out, HFT.out, HYY.out]; exact HO'.out, HE'.out⟩
            case measure => simp [intOf]; omega
      · have hkl : k = n := by omega
        subst hkl
        obtain ⟨a', c', hv, ho⟩ := Own.of_row (e := 0) hown
        subst hv
        rw [List.take_of_length_le (by rw [HTL.out]; exact Nat.le_refl _)] at ho
        have HO' := Lib.hid ho
        clear ho hown hext
        go_wp2
        go_ret2
        exact ⟨a', c', by first | (rw [HTL.out]; done) | (rw [HTL.out]; rfl), by rw [HTL.out]; exact HO'.out, HE.out⟩
end Go.Proofs.Ytplngjbllllanaa
