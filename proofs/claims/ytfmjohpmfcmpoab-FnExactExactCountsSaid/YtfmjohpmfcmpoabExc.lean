/- ExactCounts by the other side. -/
import Derived.Test.YtfmjohpmfcmpoabExb
import Derived.Test.YtfmjohpmfcmpoabHvt
import Derived.Test.YtfmjohpmfcmpoabTpb
import Derived.Test.YtfmjohpmfcmpoabL0p
namespace Go.Proofs.Ytfmjohpmfcmpoab
open Go.ChangeShapes Go.WideShapes Go.ChangeAt Go.RowKit
set_option linter.unusedVariables false
/-- a made row of counts -/
def cntF (C : List Int) (i : Nat) : Value := .int .i64 (getI C i)
theorem cntF_step {w : World} {g m i : Nat} {t : TypeId} {C C' : List Int} {x : Int} (hi : i < C.length) (h : w.rowIs g t m (cntF C)) (hC : C.set i x = C') : (w.setCell ⟨g, i, none⟩ (.int .i64 x)).rowIs g t m (cntF C') :=
  (h.set i (.int .i64 x)).congr fun j _ => by
    subst hC
    unfold cntF getI
    rw [List.getElem?_set]
    by_cases e : i = j
    · subst e; simp [hi]
    · have e' : ¬ j = i := fun x => e x.symm
      simp [e, e']
theorem cntL_zero (L : List Int) (i : Nat) : getI (cntL L []) i = 0 := by
  unfold getI cntL
  rw [List.getElem?_map]
  cases L[i]? <;> rfl
theorem at_find {L : List Int} {y : Int} (h : y ∈ L) : findL L y < L.length ∧ getI L (findL L y) = y := by
  obtain ⟨i, hi, rfl⟩ := List.getElem_of_mem h
  unfold findL
  rcases findTo_spec (getI L) L[i] L.length with ⟨h1, h2, _⟩ | ⟨_, h2⟩
  · exact ⟨h1, h2⟩
  · exact absurd (by unfold getI; rw [List.getElem?_eq_getElem hi]; rfl) (h2 i hi)
set_option maxRecDepth 100000 in
set_option maxHeartbeats 4000000 in
theorem c_spec_ExactCounts (a : Option Addr) (n cap : Nat) (zs : List Int) (w : World) {L C : List Int} {b : Bool} (hv : exR zs = (L, C, b)) (hm : n ≤ 1048576) (h : Reads w a n (ints zs)) :
    Calls Try.prog 43 #[.slice a n cap] w (RetSSB2 2 L C b w) := by
  obtain ⟨i0, hi, hz0, hz1, hz2⟩ := info_parts info_i64
  have HZ := Lib.hid h.int.1
  have H := Lib.hid h
  have HM := Lib.hid (show n ≤ maxLen by unfold maxLen; omega)
  cases hk : keysB zs
  · rw [exR_no hk] at hv
    cases hv
    have HK := Lib.hid hk
    clear hk h hm
    go_enter Try.func43, Try.ntmps43
    go_wp2_with (go_at_call 78; refine (c_spec_l02Keys_of a n cap zs _ HK.out HM.out H.out).mono ?_; rintro e w' ⟨rfl, rfl⟩)
    go_ret3
    exact ⟨none, 0, none, 0, rfl, Own.nil _ _ _ _, Own.nil _ _ _ _, Apart.none_left _, Ext.refl _⟩
  · rw [exR_yes hk] at hv
    cases hv
    have HK := Lib.hid hk
    have hn256 : n ≤ 256 := by have := keysB_len hk; have := HZ.out; omega
    clear hk h hm
    go_enter Try.func43, Try.ntmps43
    go_wp2_with fail
    refine (c_spec_l02Keys_of a n cap zs _ HK.out HM.out H.out).mono ?_; rintro e w' ⟨rfl, rfl⟩
    go_wp2
    go_loopw [5, 15] (fun v i wr => ∃ (k : Nat) (a : Option Addr) (c : Nat), k ≤ n ∧ i = .int .i64 k ∧ v = .slice a (leastD 300 (zs.take k)).length c ∧ Own 2 wr w.heap.size wr.heap.size a (leastD 300 (zs.take k)).length c (ints (leastD 300 (zs.take k))) ∧ Ext w wr) (fun _ i _ => n - (intOf i).toNat)
    case atStart => exact ⟨0, some ⟨w.heap.size, 0, none⟩, 0, Nat.zero_le _, rfl, by rw [show zs.take 0 = [] from rfl, leastD_nil]; rfl, by rw [show zs.take 0 = [] from rfl, leastD_nil]; exact (own_empty0 _ _ _ (Nat.le_refl _)).wide (Nat.le_refl _) (by simp), Ext.alloc _ _⟩
    case round =>
      obtain ⟨k, a0, c0, hk, rfl, rfl, hown, hext⟩ := hrel
      have HO := Lib.hid hown
      have HE := Lib.hid hext
      by_cases hlt : k < n
      · clear hown hext
        obtain ⟨hz1', hr1⟩ := (H.out.on HE.out).int
        rcases hr1 with h0 | ⟨kb, ko, rfl, hc1⟩
        · omega
        obtain ⟨y, hy⟩ : ∃ y, getI zs k = y := ⟨_, rfl⟩
        have c1 : wr.cell? ⟨kb, ko + k, none⟩ = some (.int .i64 y) := by rw [← hy]; exact hc1 k hlt
        have hltI : (k : Int) < (n : Int) := by omega
        have hkz : k < zs.length := by rw [hz1']; exact hlt
        have HP := Lib.hid (show putZ (leastD 300 (zs.take k)) y = leastD 300 (zs.take (k + 1)) by rw [take_snocE zs k hkz, hy]; exact putZ_least y (by rw [List.length_take]; omega))
        have hml2 : (leastD 300 (zs.take k)).length ≤ 300 := leastD_le _ _
        have ho := HO.out
        obtain ⟨m, hm⟩ : ∃ m, (leastD 300 (zs.take k)).length = m := ⟨_, rfl⟩
        rw [hm] at hml2 ho ⊢
        have HO' := Lib.hid ho
        have SZ := Lib.hid HE.out.size
        clear hm ho hy hc1 hz1' hkz
        go_wp2_with (go_at_call 80; refine (c_spec_l00Put _ _ _ _ y _ HP.out (by omega) HO'.out.reads).mono ?_; rintro e w2 ⟨a2', c2', rfl, o', x'⟩; have O2 := Lib.hid o'; have X2 := Lib.hid x'; clear o' x')
        go_roundw
        case rel => exact ⟨k + 1, a2', c2', by omega, by go_num, rfl, O2.out.wide SZ.out (Nat.le_refl _), HE.out.trans X2.out⟩
        case measure => simp [intOf]; omega
      · obtain rfl : k = n := by omega
        obtain ⟨W9, hW9⟩ : ∃ W9, W9 = wr := ⟨_, rfl⟩
        subst hW9
        have hlt' : ¬ (k : Int) < (k : Int) := by omega
        have ht : zs.take k = zs := List.take_of_length_le (by rw [HZ.out]; exact Nat.le_refl _)
        rw [ht] at hown ⊢
        obtain ⟨L, hL⟩ : ∃ L, leastD 300 zs = L := ⟨_, rfl⟩
        have HL := Lib.hid hL
        have HN := Lib.hid (show L.Nodup by rw [← hL]; exact nodup_of_lt (leastD_ok 300 zs).s)
        have HF := Lib.hid (show ∀ i, i < k → findL L (getI zs i) < L.length ∧ getI L (findL L (getI zs i)) = getI zs i from fun i hi => at_find (by rw [← hL]; exact least_all (by have := HZ.out; omega) (by have := HZ.out; unfold getI; rw [List.getElem?_eq_getElem (by omega)]; exact List.getElem_mem _)))
        rw [hL] at hown ⊢
        have hml2 : L.length ≤ 300 := by rw [← hL]; exact leastD_le _ _
        obtain ⟨m, hm⟩ : ∃ m, L.length = m := ⟨_, rfl⟩
        have HML := Lib.hid hm
        rw [hm] at hml2 hown ⊢
        have HO' := Lib.hid hown
        have hmk := run_make_row' (P := Try.prog) 22 2 (.int .i64 0) 8 Try.underlying22 info_i64 rfl .i64 .i64 m (by omega) (by omega)
        have RW := Lib.hid (World.rowIs_made W9 (.int .i64 0) m 2)
        have SZ := Lib.hid HE.out.size
        have HBK := Lib.hid (show ∀ x : Addr, a0 = some x → x.block ≠ W9.heap.size from fun x hx => by
          rcases hown.2.2 with ⟨h1, _⟩ | ⟨g, f, h1, _, h2, _⟩
          · rw [h1] at hx; cases hx
          · rw [h1] at hx; cases hx; show g ≠ _; omega)
        clear hown hext ht hL hm HO
        go_wp2
        go_loopw [30] (fun i wq => ∃ j : Nat, j ≤ k ∧ i = .int .i64 j ∧ wq.rowIs W9.heap.size 2 m (cntF (cntL L (zs.take j))) ∧ Ext W9 wq) (fun i _ => k - (intOf i).toNat)
        case atStart => exact ⟨0, Nat.zero_le _, rfl, RW.out.congr fun i _ => by unfold cntF; rw [show zs.take 0 = [] from rfl, cntL_zero], Ext.alloc _ _⟩
        case round =>
          obtain ⟨j, hj, rfl, hrow, hext⟩ := hrel
          by_cases hlt2 : j < k
          · obtain ⟨hz1', hr1⟩ := (H.out.on (HE.out.trans hext)).int
            rcases hr1 with h0 | ⟨kb, ko, rfl, hc1⟩
            · omega
            obtain ⟨f1, f2⟩ := HF.out j hlt2
            obtain ⟨y, hy⟩ : ∃ y, getI zs j = y := ⟨_, rfl⟩
            have c1 : wr.cell? ⟨kb, ko + j, none⟩ = some (.int .i64 y) := by rw [← hy]; exact hc1 j hlt2
            have hltI : (j : Int) < (k : Int) := by omega
            have hjz : j < zs.length := by rw [hz1']; exact hlt2
            have HI := Lib.hid (show idxZ L (getI zs j) = ((findL L (getI zs j) : Nat) : Int) from idxZ_yes f1)
            have hcm := cnt_at zs L j _ hjz HN.out f1 f2
            rw [hy] at HI hcm f1
            obtain ⟨i, hi9⟩ : ∃ i, findL L y = i := ⟨_, rfl⟩
            rw [hi9] at HI hcm f1
            obtain ⟨x, hx⟩ : ∃ x, getI (cntL L (zs.take j)) i = x := ⟨_, rfl⟩
            have hx2 : 0 ≤ x ∧ x ≤ 256 := by
              rw [← hx, cntL_get _ _ _ f1]
              have := cntZ_le (zs.take j) (getI L i)
              rw [List.length_take] at this
              omega
            obtain ⟨x0, x1⟩ := hx2
            have f3 : i < m := by have := HML.out; omega
            have e1 : (i : Int) < (m : Int) := by omega
            have e2 : (0 : Int) ≤ (i : Int) := by omega
            have hcur : wr.cell? ⟨W9.heap.size, i, none⟩ = some (.int .i64 x) := by
              have h9 := hrow.cell f3
              rw [h9]; unfold cntF; rw [hx]
            have hfro := hrow.frozen i
            rw [hx] at hcm
            have HS := Lib.hid (cntF_step (x := x + 1) (by rw [cntL_length]; exact f1) hrow hcm)
            have HX := Lib.hid (Ext.stepS hext (a := ⟨W9.heap.size, i, none⟩) (Nat.le_refl _) (.int .i64 (x + 1)))
            have RD := Lib.hid (HO'.out.reads.on hext)
            have m3 : m ≤ maxLen := by unfold maxLen; omega
            have HM3 := Lib.hid m3
            clear hrow hext hy hi9 hx hcm hc1 hz1' hjz f1 f2 m3
            go_wp2_with (go_at_call 102; refine (c_spec_l03Find _ _ _ L y _ HI.out HM3.out RD.out).mono ?_; rintro e w2 ⟨rfl, rfl⟩)
            go_roundw
            case rel => exact ⟨j + 1, by omega, by go_num, HS.out, HX.out⟩
            case measure => simp [intOf]; omega
          · obtain rfl : j = k := by omega
            have hlt3 : ¬ (j : Int) < (j : Int) := by omega
            have ht : zs.take j = zs := List.take_of_length_le (by rw [HZ.out]; exact Nat.le_refl _)
            rw [ht] at hrow
            have HR := Lib.hid hrow
            have HX := Lib.hid hext
            have HO2 := Lib.hid (HO'.out.on hext)
            clear hrow hext ht
            go_wp2
            go_ret3
            rw [HL.out]
            have e9 : (cntL L zs).length = m := by rw [cntL_length]; exact HML.out
            refine ⟨a0, c0, some ⟨W9.heap.size, 0, none⟩, m, ?_, ?_, ?_, ?_, HE.out.trans HX.out⟩
            · rw [e9, HML.out]; rfl
            · rw [HML.out]; exact HO2.out.wide (Nat.le_refl _) HX.out.size
            · rw [e9]; exact own_made (by rw [ints_length, e9]) SZ.out HR.out (fun i hi => by rw [ints_get _ i (by rw [e9]; exact hi)]; rfl)
            · intro x y hx hy e
              subst hx
              cases hy
              exact HBK.out x rfl e
end Go.Proofs.Ytfmjohpmfcmpoab
