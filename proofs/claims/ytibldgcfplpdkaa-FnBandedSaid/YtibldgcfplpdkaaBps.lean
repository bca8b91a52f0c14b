/- BandPairs: the other side. -/
import Derived.Test.YtibldgcfplpdkaaBpf
namespace Go.Proofs.Ytibldgcfplpdkaa
open Go.ChangeShapes Go.WideShapes Go.ChangeAt Go.RowKit
set_option linter.unusedVariables false
theorem ptsb_row {zss : List (List Bool)} {i : Nat} (hi : i < zss.length) (h : (rowS zss i).length ≠ (rowS zss 0).length) : ptsb zss = false := by
  unfold ptsb; rw [allTo_no hi (by unfold ptb; rw [decide_eq_false h]; simp)]; simp
theorem ptsb_head {zss : List (List Bool)} (h0 : 1 ≤ zss.length) (h : bitsB (rowS zss 0) = false) : ptsb zss = false := by
  unfold ptsb; rw [allTo_no (i := 0) (by omega) (by unfold ptb; rw [h]; rfl)]; simp
theorem ptsb_yes {zss : List (List Bool)} (h1 : 1 ≤ zss.length) (h2 : zss.length ≤ 32) (hb : bitsB (rowS zss 0) = true) (h : ∀ i, i < zss.length → (rowS zss i).length = (rowS zss 0).length) : ptsb zss = true := by
  rw [ptsb_all h1 h2]
  refine allTo_yes fun i hi => ?_
  unfold ptb; rw [decide_eq_true (h i hi)]
  obtain ⟨b1, b2⟩ := bitsB_is hb
  rw [bitsB_yes (by rw [h i hi]; exact b1) (by rw [h i hi]; exact b2)]; rfl
theorem divB_hi {part : Int} {count : Nat} (h1 : 1 ≤ count) (h : (count : Int) < part) : divB part count = false := by
  unfold divB
  have h2 : count < part.toNat := by omega
  rw [decide_eq_true (show 1 ≤ part by omega), Nat.mod_eq_of_lt h2, decide_eq_false (by omega)]; rfl
theorem inB_bits {zss : List (List Bool)} (h : inB 1 ((rowS zss 0).length : Int) 32 = false) : bitsB (rowS zss 0) = false := by
  cases hb : bitsB (rowS zss 0)
  · rfl
  · obtain ⟨b1, b2⟩ := bitsB_is hb
    rw [inB_is.2 ⟨by omega, by omega⟩] at h; cases h
theorem c_l00In_bp (k lo hi : Int) (w : World) {b : Bool} (h : inB lo k hi = b) : Calls Try.prog 120 #[.int .i64 k, .int .i64 lo, .int .i64 hi] w fun e w' => e = .returned (.bool b) ∧ w = w' := by subst h; exact c_l00In k lo hi w
set_option maxRecDepth 100000 in
set_option maxHeartbeats 4000000 in
theorem c_spec_BandPairs (a : Option Addr) (n cap : Nat) (hs : Nat → Hd) (zss : List (List Bool)) (wide : Int) (w : World) {rz : List Int} {rb : Bool} (hv : bandR zss wide = (rz, rb)) (hl : n + totS zss n ≤ 1048576) (h : ReadsS bools w a n hs zss) (hc : ∀ i, i < n → (rowS zss i).length ≤ (hs i).c) :
    Calls Try.prog 32 #[.slice a n cap, .int .i64 wide] w (RetSB 2 rz.length (ints rz) rb w) := by
  have hz := h.len
  subst hz
  obtain ⟨i0, hi, hz0, hz1, hz2⟩ := info_parts info_i64
  have H := Lib.hid h
  have HCC := Lib.hid hc
  by_cases h1 : 1 ≤ zss.length
  case neg =>
    rw [bandR_no (bandOk_pts (ptsb_lo h1))] at hv
    cases hv
    have h1' : (zss.length : Int) < 1 := by omega
    clear h hl hc h1
    go_enter Try.func32, Try.ntmps32
    go_wp2
    go_ret2
    exact RetSB.nil _ _
  have h1' : ¬ (zss.length : Int) < 1 := by omega
  by_cases h2 : zss.length ≤ 32
  case neg =>
    rw [bandR_no (bandOk_pts (ptsb_hi h2))] at hv
    cases hv
    have h2' : 32 < (zss.length : Int) := by omega
    clear h hl hc h1 h2
    go_enter Try.func32, Try.ntmps32
    go_wp2
    go_ret2
    exact RetSB.nil _ _
  have h2' : (zss.length : Int) ≤ 32 := by omega
  obtain ⟨b, off, rfl⟩ : ∃ b off, a = some ⟨b, off, none⟩ := by
    rcases h.o.2 with h0 | ⟨b, off, h0, _⟩
    · omega
    · exact ⟨b, off, h0⟩
  have HC := Lib.hid (show ∀ i, i < zss.length → w.cell? ⟨b, off + i, none⟩ = some (.slice (hs i).a (rowS zss i).length (hs i).c) from fun i hi => by
    rcases h.cells with h0 | ⟨b', off', he, hc⟩
    · omega
    · cases he; exact hc i hi)
  have HTL := Lib.hid (show ∀ k, k < zss.length → (rowS zss k).length ≤ 1048576 from fun k hk => by have := totS_row zss hk; omega)
  have hposI : (0 : Int) < (zss.length : Int) := by omega
  have hpos : 0 < zss.length := by omega
  have HR0 := Lib.hid (fun hp : ptsb zss = false => bandR_no (bandOk_pts (wide := wide) hp))
  obtain ⟨L, hL⟩ : ∃ L, (rowS zss 0).length = L := ⟨_, rfl⟩
  have HLL := Lib.hid hL
  have cz0 : w.cell? ⟨b, off, none⟩ = some (.slice (hs 0).a L (hs 0).c) := by have := HC.out 0 hpos; rwa [hL] at this
  have hLm : L ≤ 1048576 := by rw [← hL]; exact HTL.out 0 hpos
  cases k1 : inB 1 (L : Int) 32
  · rw [HR0.out (ptsb_head h1 (inB_bits (by rw [hL]; exact k1)))] at hv
    cases hv
    have K1 := Lib.hid k1
    clear k1 h hl hc h1 h2 hL
    go_enter Try.func32, Try.ntmps32
    go_wp2_with (go_at_call_of 120 (Value.int .i64 (L : Int)); refine (c_l00In_bp _ _ _ _ K1.out).mono ?_; rintro e w' ⟨rfl, rfl⟩)
    go_ret2
    exact RetSB.nil _ _
  have hLb := inB_is.1 k1
  cases k2 : inB 1 wide (L : Int)
  · have hdv : divB wide L = false := by
      by_cases hw : 1 ≤ wide
      · exact divB_hi (by omega) (by
          by_cases hw2 : wide ≤ (L : Int)
          · rw [inB_is.2 ⟨hw, hw2⟩] at k2; cases k2
          · omega)
      · exact divB_lo hw
    rw [bandR_no (bandOk_div (by rw [hL]; exact hdv))] at hv
    cases hv
    have K1 := Lib.hid k1
    have K2 := Lib.hid k2
    clear k1 k2 h hl hc h1 h2 hL hdv hLb
    go_enter Try.func32, Try.ntmps32
    go_wp2_with (first | (go_at_call_of 120 (Value.int .i64 (L : Int)); refine (c_l00In_bp _ _ _ _ K1.out).mono ?_; rintro e w' ⟨rfl, rfl⟩; clear K1) | (go_at_call_of 120 (Value.int .i64 wide); refine (c_l00In_bp _ _ _ _ K2.out).mono ?_; rintro e w' ⟨rfl, rfl⟩))
    go_ret2
    exact RetSB.nil _ _
  have hwb := inB_is.1 k2
  obtain ⟨W, hW⟩ : ∃ W : Nat, wide = (W : Int) := ⟨wide.toNat, by omega⟩
  subst hW
  have hW1 : 1 ≤ W := by omega
  have hW64 : W ≤ 64 := by omega
  have z1 : ((W : Int) == 0) = false := by simp; omega
  have z2 : ¬ (W : Int) = 0 := by omega
  have z3 : (0 : Int) < (W : Int) := by omega
  obtain ⟨M, hM⟩ : ∃ M : Nat, L % W = M := ⟨_, rfl⟩
  have e1 : (L : Int) % (W : Int) = (M : Int) := by rw [← hM]; omega
  have e2 : (L : Int).tmod (W : Int) = (M : Int) := by rw [Int.tmod_eq_emod_of_nonneg (by omega)]; exact e1
  have hMl : M ≤ L := by rw [← hM]; exact Nat.mod_le _ _
  by_cases h0 : M = 0
  case neg =>
    rw [bandR_no (bandOk_div (by rw [hL, divB_nat hW1, hM]; exact decide_eq_false h0))] at hv
    cases hv
    have h3 : ((M : Int) == 0) = false := by simp; omega
    have h4 : ((M : Int) != 0) = true := by simp; omega
    have K1 := Lib.hid k1
    have K2 := Lib.hid k2
    clear k1 k2 h hl hc h1 h2 hL hLb hwb hM h0
    go_enter Try.func32, Try.ntmps32
    go_wp2_with (first | (go_at_call_of 120 (Value.int .i64 (L : Int)); refine (c_l00In_bp _ _ _ _ K1.out).mono ?_; rintro e w' ⟨rfl, rfl⟩; clear K1) | (go_at_call_of 120 (Value.int .i64 (W : Int)); refine (c_l00In_bp _ _ _ _ K2.out).mono ?_; rintro e w' ⟨rfl, rfl⟩))
    go_ret2
    exact RetSB.nil _ _
  subst h0
  have HDV := Lib.hid (show divB (W : Int) (rowS zss 0).length = true by rw [hL, divB_nat hW1, hM]; rfl)
  have HB0 := Lib.hid (show bitsB (rowS zss 0) = true from bitsB_yes (by omega) (by omega))
  have HQ := Lib.hid (show L / W * W = L from Nat.div_mul_cancel (Nat.dvd_of_mod_eq_zero hM))
  have K1 := Lib.hid k1
  have K2 := Lib.hid k2
  have HV := Lib.hid hv
  have HH1 := Lib.hid (And.intro h1 h2)
  have HROW := Lib.hid (fun hp : ptsb zss = true => band_row (W := W) hp HDV.out h hc)
  obtain ⟨n, hn⟩ : ∃ n, zss.length = n := ⟨_, rfl⟩
  have HN := Lib.hid hn
  rw [hn] at hpos hposI h1' h2' HC HTL HROW
  clear k1 k2 h hl hc h1 h2 hL hLb hwb hM hv hn
  rw [HN.out]
  go_enter Try.func32, Try.ntmps32
  go_wp2_with (first | (go_at_call_of 120 (Value.int .i64 (L : Int)); refine (c_l00In_bp _ _ _ _ K1.out).mono ?_; rintro e w' ⟨rfl, rfl⟩; clear K1) | (go_at_call_of 120 (Value.int .i64 (W : Int)); refine (c_l00In_bp _ _ _ _ K2.out).mono ?_; rintro e w' ⟨rfl, rfl⟩))
  clear cz0 z1 z2 z3 e1 e2
  go_loop [40] (fun i => ∃ k : Nat, k ≤ n ∧ i = .int .i64 k ∧ ∀ j, j < k → (rowS zss j).length = L) (fun i => n - (intOf i).toNat)
  case atStart => exact ⟨0, Nat.zero_le _, rfl, fun j hj => absurd hj (Nat.not_lt_zero _)⟩
  case round =>
    obtain ⟨k, hk, rfl, hall⟩ := hrel
    have HA := Lib.hid hall
    clear hall
    by_cases hlt : k < n
    · have hltI : (k : Int) < (n : Int) := by omega
      have cz := HC.out k hlt
      obtain ⟨d, hd⟩ : ∃ d, (rowS zss k).length = d := ⟨_, rfl⟩
      have HDD := Lib.hid hd
      rw [hd] at cz
      clear hd
      by_cases hdl : d = L
      · subst hdl
        have e3 : ((d : Int) == (d : Int)) = true := by simp
        have e4 : ((d : Int) != (d : Int)) = false := by simp
        go_wp2
        go_round
        case rel => exact ⟨k + 1, by omega, by go_num, fun j hj => by
          by_cases e : j = k
          · subst e; exact HDD.out
          · exact HA.out j (by omega)⟩
        case measure => simp [intOf]; omega
      · have e3 : ((d : Int) == (L : Int)) = false := by simp; omega
        have e4 : ((d : Int) != (L : Int)) = true := by simp; omega
        have hv2 : ([], false) = (rz, rb) := by rw [← HV.out, HR0.out (ptsb_row (i := k) (by rw [HN.out]; exact hlt) (by rw [HDD.out, HLL.out]; exact hdl))]
        cases hv2
        clear hdl
        go_wp2
        go_ret2
        exact RetSB.nil _ _
    · have hkn : k = n := by omega
      subst hkn
      have hlt' : ¬ (k : Int) < (k : Int) := by omega
      have HPT := Lib.hid (show ptsb zss = true from ptsb_yes HH1.out.1 HH1.out.2 HB0.out fun i hi => by rw [HLL.out]; exact HA.out i (by rw [← HN.out]; exact hi))
      have HV2 := Lib.hid (show (prAll (bpP zss (W : Int)) k k, true) = (rz, rb) by rw [← HV.out, bandR_yes (bandOk_yes HPT.out HDV.out), HN.out])
      have hv3 := HV2.out
      cases hv3
      have HRW := Lib.hid (HROW.out HPT.out)
      have HBD := Lib.hid (show ∀ i j, i ≤ k → j ≤ k → (prAll (bpP zss (W : Int)) k i ++ prRow (bpP zss (W : Int)) i j).length ≤ 4096 from fun i j hi hj => by
        have h1 := prAll_le (bpP zss (W : Int)) k i
        have h2 := prRow_le (bpP zss (W : Int)) i j
        have h3 : 2 * k * i ≤ 2 * 32 * 32 := Nat.mul_le_mul (by omega) (by omega)
        rw [List.length_append]; omega)
      have HPE := Lib.hid (show ∀ i j, bandB (rowS zss i) (rowS zss j) W (L / W) = bpP zss (W : Int) i j from fun i j => by unfold bpP; rw [Int.toNat_natCast, HLL.out])
      obtain ⟨P, hP⟩ : ∃ P, bpP zss (W : Int) = P := ⟨_, rfl⟩
      rw [hP] at HBD HPE ⊢
      have HPP := Lib.hid hP
      clear hP HV HV2
      go_wp2
      go_loopw [8, 54] (fun v i wr => ∃ t : Nat, t ≤ k ∧ i = .int .i64 t ∧ wr.ownsRow w.heap.size 2 1 v (prAll P k t).length (ints (prAll P k t)) ∧ Ext w wr) (fun _ i _ => k - (intOf i).toNat)
      case atStart => exact ⟨0, Nat.zero_le _, rfl, World.ownsRow_made _ _ _ (Nat.le_refl _) (Nat.zero_le _) rfl, Ext.alloc _ _⟩
      case round =>
        obtain ⟨i, hik, rfl, hown, hext⟩ := hrel
        have HO := Lib.hid hown
        have HE := Lib.hid hext
        by_cases hlt : i < k
        · have hltI : (i : Int) < (k : Int) := by omega
          clear hown hext
          obtain ⟨wo, rfl⟩ : ∃ wo : World, wo = wr := ⟨_, rfl⟩
          go_wp2
          go_loopw [8, 10] (fun v t wr => ∃ j : Nat, i + 1 + j ≤ k ∧ t = .int .i64 ((i + 1 + j : Nat) : Int) ∧ wr.ownsRow w.heap.size 2 1 v (prAll P k i ++ prRow P i j).length (ints (prAll P k i ++ prRow P i j)) ∧ Ext w wr) (fun _ t _ => k - (intOf t).toNat)
          case atStart => exact ⟨0, by omega, rfl, by rw [show prRow P i 0 = [] from rfl, List.append_nil]; exact HO.out, HE.out⟩
          case round =>
            obtain ⟨j, hj, rfl, hown, hext⟩ := hrel
            have HO2 := Lib.hid hown
            have HE2 := Lib.hid hext
            clear hown hext
            have hbd := HBD.out i j (by omega) (by omega)
            obtain ⟨t, ht⟩ : ∃ t, i + 1 + j = t := ⟨_, rfl⟩
            have HK := Lib.hid ht
            have htI : (t : Int) = (i : Int) + 1 + (j : Int) := by omega
            have HKI := Lib.hid htI
            rw [ht]
            by_cases hlt2 : t < k
            · have hlt2I : (t : Int) < (k : Int) := by omega
              have hit2 : i < t := by omega
              have ci := HE2.out.some (HC.out i hlt)
              have ct := HE2.out.some (HC.out t hlt2)
              have bri := HRW.out i hlt
              have brt := HRW.out t hlt2
              rw [HLL.out] at bri brt
              obtain ⟨di, hdi⟩ : ∃ d, (rowS zss i).length = d := ⟨_, rfl⟩
              obtain ⟨dt, hdt⟩ : ∃ d, (rowS zss t).length = d := ⟨_, rfl⟩
              rw [hdi] at ci
              rw [hdt] at ct
              have HDI := Lib.hid (show di = L by rw [← hdi, bri.n, HQ.out])
              have HDT := Lib.hid (show dt = L by rw [← hdt, brt.n, HQ.out])
              have RI := Lib.hid (show Reads w (hs i).a L (bools (rowS zss i)) by have := bri.r; rwa [HQ.out] at this)
              have RT := Lib.hid (show Reads w (hs t).a L (bools (rowS zss t)) by have := brt.r; rwa [HQ.out] at this)
              rw [HDI.out] at ci
              rw [HDT.out] at ct
              obtain ⟨pv, hpv⟩ : ∃ b, P i t = b := ⟨_, rfl⟩
              have HPV := Lib.hid hpv
              have HBV := Lib.hid (show bandB (rowS zss i) (rowS zss t) W (L / W) = pv by rw [HPE.out]; exact hpv)
              clear hpv hdi hdt bri brt ht htI
              cases pv
              · have HR := Lib.hid (prRow_no_b (p := P) (i := i) (j := j) (by rw [HK.out]; exact HPV.out))
                go_wp2
                go_quiet ((go_at_call 121; exact Calls.quiet_of (c_spec_l07Band _ _ L _ _ W (L / W) (rowS zss i) (rowS zss t) _ HBV.out HQ.out.symm hW1 hW64 hLm (RI.out.on (HE2.out.trans (Ext.drewN _ _))) (RT.out.on (HE2.out.trans (Ext.drewN _ _))))))
                go_wp2
                go_roundw
                case rel => exact ⟨j + 1, by have := HK.out; omega, by first | (rw [show i + 1 + (j + 1) = t + 1 by have := HK.out; omega]; go_num), by rw [HR.out]; exact owns_on_b HO2.out (Ext.drewN _ _), HE2.out.trans (Ext.drewN _ _)⟩
                case measure => simp [intOf]; omega
              · have HR := Lib.hid (prRow_yes_b (p := P) (i := i) (j := j) (by rw [HK.out]; exact HPV.out))
                obtain ⟨N, hN⟩ : ∃ N, prAll P k i ++ prRow P i j = N := ⟨_, rfl⟩
                have HM := Lib.hid hN
                rw [hN] at HO2 hbd
                obtain ⟨m, hm⟩ : ∃ m, N.length = m := ⟨_, rfl⟩
                have HML := Lib.hid hm
                rw [hm] at HO2 hbd
                clear hN hm
                go_wp2
                go_quiet ((go_at_call 121; exact Calls.quiet_of (c_spec_l07Band _ _ L _ _ W (L / W) (rowS zss i) (rowS zss t) _ HBV.out HQ.out.symm hW1 hW64 hLm (RI.out.on (HE2.out.trans (Ext.drewN _ _))) (RT.out.on (HE2.out.trans (Ext.drewN _ _))))))
                go_wp2_with (at_builtin; refine wpList_append_own _ rfl _ _ 24 rfl w.heap.size 2 i0 (.int .i64 0) 1 8 Try.underlying24 hi hz0 hz1 hz2 rfl (by decide) _ _ _ rfl ((owns_on_b HO2.out ?c0).alloc _) ⟨_, 0, none⟩ 2 2 [.int .i64 (i : Int), .int .i64 (t : Int)] rfl rfl ?c1 ?c2 ?c3 ?c4 ?c5 ?_)
                case c0 => exact Ext.drewN _ _
                try (case c1 => exact two_cell_at_b _ _ _ _)
                case c2 => intro u hu; simp at hu; rcases hu with rfl | rfl <;> rfl
                case c3 => unfold maxLen; omega
                case c4 => omega
                case c5 => have := HE2.out.size; simp; omega
                intro v' w3 hown' hgrow _
                have HO3 := Lib.hid hown'
                have HE3 := Lib.hid (app_step (HE2.out.trans (Ext.drewN _ _)) (owns_on_b HO2.out (Ext.drewN _ _)) hgrow)
                clear hown' hgrow HO2
                go_wp2
                go_roundw
                case rel => exact ⟨j + 1, by have := HK.out; omega, by first | (rw [show i + 1 + (j + 1) = t + 1 by have := HK.out; omega]; go_num), by rw [HR.out, ← List.append_assoc, HM.out, List.length_append, HML.out, ints_app_b, HK.out]; exact HO3.out, HE3.out⟩
                case measure => simp [intOf]; omega
            · have htn : t = k := by omega
              subst htn
              have hlt2' : ¬ (t : Int) < (t : Int) := by omega
              have HR := Lib.hid (prAll_row P (n := t) (i := i) (j := j) HK.out)
              rw [HR.out] at HO2
              clear ht htI hbd
              go_wp2
              go_roundw
              case rel => exact ⟨i + 1, by omega, by go_num, HO2.out, HE2.out⟩
              case measure => simp [intOf]; omega
        · have hin : i = k := by omega
          subst hin
          have hlt2' : ¬ (i : Int) < (i : Int) := by omega
          obtain ⟨a', c', hv', ho⟩ := Own.of_row (e := 0) hown
          subst hv'
          have HO' := Lib.hid ho
          clear ho hown hext
          go_wp2
          go_ret2
          exact ⟨a', c', by rw [HPP.out]; rfl, by rw [HPP.out]; exact HO'.out, HE.out⟩
end Go.Proofs.Ytibldgcfplpdkaa
