/- LikeShare: what both sides answer. -/
import Derived.Test.YtdbllnmhlfkhbabChi
import Derived.Test.YtdbllnmhlfkhbabLeb
namespace Go.Proofs.Ytdbllnmhlfkhbab
open Go.ChangeShapes Go.WideShapes Go.ChangeAt Go.RowKit Go.Proofs.Ytdbllnmhlfkhbab.Flo
set_option linter.unusedVariables false
attribute [local go_sem] run_fl_add run_fl_sub run_fl_mul run_fl_quo run_conv run_store_float run_store_complex
def keyAt (zs : List Int) (s : Int) : Int := zs[leastAt (hashAt zs s) zs.length]?.getD 0
def likeC (a b ss : List Int) : Nat := ss.countP fun s => keyAt a s == keyAt b s
def likeB (a b ss : List Int) : Bool := keysB a && keysB b && keysB ss && decide (1 ≤ a.length ∧ 1 ≤ b.length ∧ 1 ≤ ss.length ∧ ss.length ≤ 32)
def likeV (a b ss : List Int) : Option Nat := if likeB a b ss then fop .quo .f32 (fI (likeC a b ss)) (fI ss.length) else some 0
theorem likeV_no {a b ss : List Int} (h : likeB a b ss = false) : likeV a b ss = some 0 := by unfold likeV; rw [h]; rfl
theorem likeV_yes {a b ss : List Int} (h : likeB a b ss = true) : likeV a b ss = fop .quo .f32 (fI (likeC a b ss)) (fI ss.length) := by unfold likeV; rw [h, if_pos rfl]
theorem likeB_a {a b ss : List Int} (h : keysB a = false) : likeB a b ss = false := by unfold likeB; rw [h]; rfl
theorem likeB_b {a b ss : List Int} (h : keysB b = false) : likeB a b ss = false := by unfold likeB; rw [h]; simp
theorem likeB_s {a b ss : List Int} (h : keysB ss = false) : likeB a b ss = false := by unfold likeB; rw [h]; simp
theorem likeB_n {a b ss : List Int} (h : ¬ (1 ≤ a.length ∧ 1 ≤ b.length ∧ 1 ≤ ss.length ∧ ss.length ≤ 32)) : likeB a b ss = false := by unfold likeB; rw [decide_eq_false h]; simp
theorem likeB_mk {a b ss : List Int} (h1 : keysB a = true) (h2 : keysB b = true) (h3 : keysB ss = true) (h4 : 1 ≤ a.length ∧ 1 ≤ b.length ∧ 1 ≤ ss.length ∧ ss.length ≤ 32) : likeB a b ss = true := by unfold likeB; rw [h1, h2, h3, decide_eq_true h4]; rfl
theorem likeC_step (a b ss : List Int) (k : Nat) (h : k < ss.length) {s x y : Int} (hs : ss[k]?.getD 0 = s) (hx : keyAt a s = x) (hy : keyAt b s = y) : likeC a b (ss.take (k + 1)) = likeC a b (ss.take k) + (if x = y then 1 else 0) := by
  unfold likeC
  rw [List.take_succ_eq_append_getElem h, List.countP_append, List.countP_singleton]
  rw [List.getElem?_eq_getElem h] at hs
  simp only [Option.getD_some] at hs
  rw [hs, hx, hy]
  by_cases e : x = y <;> simp [e]
theorem likeC_le (a b ss : List Int) : likeC a b ss ≤ ss.length := List.countP_le_length
theorem c_impl_areSalts (a : Option Addr) (n cap : Nat) (zs : List Int) (w : World) {b : Bool} (hb : (decide (n ≤ 32) && keysB zs) = b) (hm : n ≤ maxLen) (h : Reads w a n (ints zs)) :
    Calls Try.prog 50 #[.slice a n cap] w fun e w' => e = .returned (.bool b) ∧ w = w' := by
  have H := Lib.hid h
  by_cases hl : n ≤ 32
  · have hl' : (n : Int) ≤ 32 := by omega
    have HB := Lib.hid (show keysB zs = b by rw [← hb, decide_eq_true hl]; rfl)
    clear h hb hl
    go_enter Try.func50, Try.ntmps50
    go_wp2_with (go_at_call 49; refine (c_impl_AreKeys_of _ _ _ zs _ HB.out hm H.out).mono ?_; rintro e w' ⟨rfl, rfl⟩)
    go_ret
    exact ⟨rfl, rfl⟩
  · have hl' : (32 : Int) < (n : Int) := by omega
    have HB := Lib.hid (show b = false by rw [← hb, decide_eq_false hl]; rfl)
    clear h hb hl
    rw [HB.out]
    go_enter Try.func50, Try.ntmps50
    go_wp2
    go_ret
    exact ⟨by first | rfl | exact nbool (decide_eq_false (by omega)), rfl⟩
theorem c_impl_LeastHash_of (a : Option Addr) (n cap : Nat) (zs : List Int) (salt : Int) (w : World) {hh ii : Int} {b : Bool} (h1 : leastH zs salt = hh) (h2 : leastI zs salt = ii) (h3 : leastB zs salt = b) (hm : n ≤ maxLen) (h : Reads w a n (ints zs)) :
    Calls Try.prog 24 #[.slice a n cap, .int .i64 salt] w fun e w' => e = .returned (.tuple #[.int .i64 hh, .int .i64 ii, .bool b]) ∧ Ext w w' := by
  subst h1; subst h2; subst h3; exact c_impl_LeastHash a n cap zs salt w hm h
set_option maxHeartbeats 2000000 in
theorem c_impl_LikeShare (a0 : Option Addr) (n0 cap0 : Nat) (zs0 : List Int) (a1 : Option Addr) (n1 cap1 : Nat) (zs1 : List Int) (a2 : Option Addr) (n2 cap2 : Nat) (zs2 : List Int) (w : World)
    (hm0 : n0 ≤ maxLen) (h0 : Reads w a0 n0 (ints zs0)) (hm1 : n1 ≤ maxLen) (h1 : Reads w a1 n1 (ints zs1)) (hm2 : n2 ≤ maxLen) (h2 : Reads w a2 n2 (ints zs2)) :
    Calls Try.prog 44 #[.slice a0 n0 cap0, .slice a1 n1 cap1, .slice a2 n2 cap2] w (RetFE (likeV zs0 zs1 zs2) (likeB zs0 zs1 zs2) w) := by
  have hl0 : n0 = zs0.length := h0.int.1.symm
  have hl1 : n1 = zs1.length := h1.int.1.symm
  have hl2 : n2 = zs2.length := h2.int.1.symm
  have H0 := Lib.hid h0
  have H1 := Lib.hid h1
  have H2 := Lib.hid h2
  cases hs : decide (n2 ≤ 32) && keysB zs2
  · have HS := Lib.hid hs
    have hB : likeB zs0 zs1 zs2 = false := by
      by_cases hk : keysB zs2 = true
      · exact likeB_n (fun h => by rw [hk, decide_eq_true (by omega)] at hs; cases hs)
      · exact likeB_s (by simpa using hk)
    rw [likeV_no hB, hB]
    clear hs hB h0 h1 h2 hl0 hl1 hl2
    go_enter Try.func44, Try.ntmps44
    go_wp2_with (go_at_call 50; refine (c_impl_areSalts _ _ _ zs2 _ HS.out hm2 H2.out).mono ?_; rintro e w' ⟨rfl, rfl⟩)
    go_ret2
    exact RetFE.no _ _ (Ext.refl _)
  · have HS := Lib.hid hs
    have hs2 : n2 ≤ 32 ∧ keysB zs2 = true := by simpa using hs
    by_cases hz : n2 = 0
    · have hB : likeB zs0 zs1 zs2 = false := likeB_n (by omega)
      rw [likeV_no hB, hB]
      subst hz
      clear hs hB h0 h1 h2 hl0 hl1 hl2 hs2
      go_enter Try.func44, Try.ntmps44
      go_wp2_with (go_at_call 50; refine (c_impl_areSalts _ _ _ zs2 _ HS.out hm2 H2.out).mono ?_; rintro e w' ⟨rfl, rfl⟩)
      go_ret2
      exact RetFE.no _ _ (Ext.refl _)
    · have hz' : ((n2 : Int) == 0) = false := by simp; omega
      have hz1 : 1 ≤ n2 := by omega
      rcases h2.int.2 with h00 | ⟨bs, offs, rfl, hc⟩
      · omega
      have HC := Lib.hid hc
      have HK2 := Lib.hid hs2.2
      have HL2 := Lib.hid hl2
      by_cases hB : likeB zs0 zs1 zs2 = true
      · rw [likeV_yes hB, hB, ← hl2]
        have hB' := hB
        unfold likeB at hB'
        simp only [Bool.and_eq_true, decide_eq_true_eq] at hB'
        obtain ⟨⟨⟨k0, k1⟩, k2⟩, q0, q1, q2, q3⟩ := hB'
        have hn32 : n2 ≤ 32 := hs2.1
        rcases h0.int.2 with h00 | ⟨b0, off0, rfl, hc0⟩
        · omega
        rcases h1.int.2 with h00 | ⟨b1, off1, rfl, hc1⟩
        · omega
        have HC0 := Lib.hid hc0
        have HC1 := Lib.hid hc1
        have HB0 := Lib.hid (show ∀ s, keyB s = true → leastB zs0 s = true from fun s hs => leastB_mk k0 hs q0)
        have HB1 := Lib.hid (show ∀ s, keyB s = true → leastB zs1 s = true from fun s hs => leastB_mk k1 hs q1)
        have HN0 := Lib.hid (show ∀ s, leastAt (hashAt zs0 s) zs0.length < n0 from fun s => by rw [hl0]; exact leastAt_le _ _ q0)
        have HN1 := Lib.hid (show ∀ s, leastAt (hashAt zs1 s) zs1.length < n1 from fun s => by rw [hl1]; exact leastAt_le _ _ q1)
        clear hs hB h0 h1 h2 hl0 hl1 hl2 hs2 hc hc0 hc1 k0 k1 k2 q0 q1 q2 q3 hz
        go_enter Try.func44, Try.ntmps44
        go_wp2_with (go_at_call 50; refine (c_impl_areSalts _ _ _ zs2 _ HS.out hm2 H2.out).mono ?_; rintro e w' ⟨rfl, rfl⟩)
        go_loopw [8, 27] (fun c i wr => ∃ k : Nat, k ≤ n2 ∧ i = .int .i64 k ∧ c = .int .i64 (likeC zs0 zs1 (zs2.take k) : Nat) ∧ Ext w wr) (fun _ i _ => n2 - (intOf i).toNat)
        case atStart => exact ⟨0, Nat.zero_le _, rfl, rfl, Ext.refl _⟩
        case round =>
          obtain ⟨k, hk, rfl, rfl, hx⟩ := hrel
          have HX := Lib.hid hx
          clear hx
          by_cases hlt : k < n2
          · have hcell : wr.cell? ⟨bs, offs + k, none⟩ = some (.int .i64 (zs2[k]?.getD 0)) := by
              have e := HC.out k hlt
              rw [HX.out.cell bs _ (World.block_lt_of_cell? w ⟨bs, offs + k, none⟩ e)]; exact e
            obtain ⟨s, hs⟩ : ∃ s, zs2[k]?.getD 0 = s := ⟨_, rfl⟩
            have hks : keyB s = true := by rw [← hs]; exact keysB_at HK2.out (by have := HL2.out; omega)
            obtain ⟨m0, hm0'⟩ : ∃ m, leastAt (hashAt zs0 s) zs0.length = m := ⟨_, rfl⟩
            obtain ⟨m1, hm1'⟩ : ∃ m, leastAt (hashAt zs1 s) zs1.length = m := ⟨_, rfl⟩
            have hm0n : m0 < n0 := by rw [← hm0']; exact HN0.out s
            have hm1n : m1 < n1 := by rw [← hm1']; exact HN1.out s
            obtain ⟨x, hx⟩ : ∃ x, zs0[m0]?.getD 0 = x := ⟨_, rfl⟩
            obtain ⟨y, hy⟩ : ∃ y, zs1[m1]?.getD 0 = y := ⟨_, rfl⟩
            have HI0 := Lib.hid (show leastI zs0 s = (m0 : Int) by rw [leastI_yes (HB0.out s hks), hm0'])
            have HI1 := Lib.hid (show leastI zs1 s = (m1 : Int) by rw [leastI_yes (HB1.out s hks), hm1'])
            have HT0 := Lib.hid (HB0.out s hks)
            have HT1 := Lib.hid (HB1.out s hks)
            have HST := Lib.hid (likeC_step zs0 zs1 zs2 k (by have := HL2.out; omega) hs (show keyAt zs0 s = x by unfold keyAt; rw [hm0', hx]) (show keyAt zs1 s = y by unfold keyAt; rw [hm1', hy]))
            obtain ⟨c, hcc⟩ : ∃ c, likeC zs0 zs1 (zs2.take k) = c := ⟨_, rfl⟩
            have hcl : c ≤ 32 := by
              have := likeC_le zs0 zs1 (zs2.take k)
              rw [hcc, List.length_take] at this
              omega
            rw [hcc] at HST ⊢
            have HX0 := Lib.hid (show w.cell? ⟨b0, off0 + m0, none⟩ = some (.int .i64 x) by rw [HC0.out m0 hm0n, hx])
            have HX1 := Lib.hid (show w.cell? ⟨b1, off1 + m1, none⟩ = some (.int .i64 y) by rw [HC1.out m1 hm1n, hy])
            rw [hs] at hcell
            clear hs hks hm0' hm1' hx hy hcc
            go_wp2_with fail
            refine (c_impl_LeastHash_of _ _ _ zs0 s _ rfl HI0.out HT0.out hm0 (H0.out.on HX.out)).mono ?_; rintro e u1 ⟨rfl, x1⟩
            have HU1 := Lib.hid (HX.out.trans x1)
            clear x1
            go_wp2_with fail
            refine (c_impl_LeastHash_of _ _ _ zs1 s _ rfl HI1.out HT1.out hm1 (H1.out.on HU1.out)).mono ?_; rintro e u2 ⟨rfl, x2⟩
            have HU2 := Lib.hid (HU1.out.trans x2)
            clear x2
            have hcx : u2.cell? ⟨b0, off0 + m0, none⟩ = some (.int .i64 x) := by rw [HU2.out.cell b0 _ (World.block_lt_of_cell? w ⟨b0, off0 + m0, none⟩ HX0.out)]; exact HX0.out
            have hcy : u2.cell? ⟨b1, off1 + m1, none⟩ = some (.int .i64 y) := by rw [HU2.out.cell b1 _ (World.block_lt_of_cell? w ⟨b1, off1 + m1, none⟩ HX1.out)]; exact HX1.out
            by_cases hxy : x = y
            · have HST' := Lib.hid (show likeC zs0 zs1 (zs2.take (k + 1)) = c + 1 by rw [HST.out, if_pos hxy])
              subst hxy
              go_wp2
              go_region
              all_goals
                go_wp2
                go_roundw
                case rel => exact ⟨k + 1, by omega, by go_num, by rw [HST'.out]; go_num, by first | exact HU2.out.trans (Ext.drew _) | exact HU2.out.trans (Ext.drewN _ _)⟩
                case measure => simp [intOf]; omega
            · have HST' := Lib.hid (show likeC zs0 zs1 (zs2.take (k + 1)) = c by rw [HST.out, if_neg hxy]; rfl)
              go_wp2
              go_region
              all_goals
                go_wp2
                go_roundw
                case rel => exact ⟨k + 1, by omega, by go_num, by rw [HST'.out], by first | exact HU2.out.trans (Ext.drew _) | exact HU2.out.trans (Ext.drewN _ _)⟩
                case measure => simp [intOf]; omega
          · obtain rfl : k = n2 := by omega
            have HTK := Lib.hid (show zs2.take k = zs2 from List.take_of_length_le (by have := HL2.out; omega))
            rw [HTK.out]
            obtain ⟨c, hcc⟩ : ∃ c, likeC zs0 zs1 zs2 = c := ⟨_, rfl⟩
            rw [hcc]
            have HCC := Lib.hid hcc
            clear hcc
            go_wp2
            go_ret2
            refine ⟨_, rfl, ?_, HX.out.trans (Ext.drewN _ _)⟩
            try rw [HCC.out]
            simp only [fv_flR, fI]
      · have hBf : likeB zs0 zs1 zs2 = false := by simpa using hB
        rw [likeV_no hBf, hBf]
        have hks0 : keyB (zs2[0]?.getD 0) = true := keysB_at hs2.2 (by omega)
        have hcell := hc 0 hz1
        obtain ⟨s, hs'⟩ : ∃ s, zs2[0]?.getD 0 = s := ⟨_, rfl⟩
        rw [hs'] at hks0 hcell
        obtain ⟨B0, hB0⟩ : ∃ b, leastB zs0 s = b := ⟨_, rfl⟩
        obtain ⟨B1, hB1⟩ : ∃ b, leastB zs1 s = b := ⟨_, rfl⟩
        have hno : (B0 && B1) = false := by
          cases hbb : B0 && B1
          · rfl
          · exfalso
            simp only [Bool.and_eq_true] at hbb
            rw [← hB0, ← hB1] at hbb
            unfold leastB at hbb
            simp only [Bool.and_eq_true, decide_eq_true_eq] at hbb
            exact hB (likeB_mk hbb.1.1.1 hbb.2.1.1 hs2.2 ⟨hbb.1.2, hbb.2.2, by omega, by omega⟩)
        have HB0 := Lib.hid hB0
        have HB1 := Lib.hid hB1
        obtain ⟨i0, hi0⟩ : ∃ i, leastI zs0 s = i := ⟨_, rfl⟩
        obtain ⟨i1, hi1⟩ : ∃ i, leastI zs1 s = i := ⟨_, rfl⟩
        have HI0 := Lib.hid hi0
        have HI1 := Lib.hid hi1
        clear hs hB hBf h0 h1 h2 hl0 hl1 hl2 hs2 hc hz hks0 hs' hB0 hB1 hi0 hi1
        go_enter Try.func44, Try.ntmps44
        go_wp2_with (go_at_call 50; refine (c_impl_areSalts _ _ _ zs2 _ HS.out hm2 H2.out).mono ?_; rintro e w' ⟨rfl, rfl⟩)
        go_loopw [8, 27] (fun c i wr => c = .int .i64 0 ∧ i = .int .i64 0 ∧ wr = w) (fun _ _ _ => 0)
        case atStart => exact ⟨rfl, rfl, rfl⟩
        case round =>
          obtain ⟨rfl, rfl, hw⟩ := hrel
          have HW := Lib.hid hw
          have hcw : wr.cell? ⟨bs, offs, none⟩ = some (.int .i64 s) := by rw [hw]; exact hcell
          clear hw
          go_wp2_with fail
          refine (c_impl_LeastHash_of _ _ _ zs0 s _ rfl HI0.out HB0.out hm0 (by rw [HW.out]; exact H0.out)).mono ?_; rintro e u1 ⟨rfl, x1⟩
          have HU1 := Lib.hid (show Ext w u1 by rw [← HW.out]; exact x1)
          clear x1
          go_wp2_with fail
          refine (c_impl_LeastHash_of _ _ _ zs1 s _ rfl HI1.out HB1.out hm1 (H1.out.on HU1.out)).mono ?_; rintro e u2 ⟨rfl, x2⟩
          have HU2 := Lib.hid (HU1.out.trans x2)
          clear x2
          cases B0
          · go_wp2
            go_ret2
            exact RetFE.no _ _ HU2.out
          · cases B1
            · go_wp2
              go_ret2
              exact RetFE.no _ _ HU2.out
            · cases hno
set_option maxHeartbeats 2000000 in
theorem c_spec_LikeShare (a0 : Option Addr) (n0 cap0 : Nat) (zs0 : List Int) (a1 : Option Addr) (n1 cap1 : Nat) (zs1 : List Int) (a2 : Option Addr) (n2 cap2 : Nat) (zs2 : List Int) (w : World)
    (hm0 : n0 ≤ maxLen) (h0 : Reads w a0 n0 (ints zs0)) (hm1 : n1 ≤ maxLen) (h1 : Reads w a1 n1 (ints zs1)) (hm2 : n2 ≤ maxLen) (h2 : Reads w a2 n2 (ints zs2)) :
    Calls Try.prog 43 #[.slice a0 n0 cap0, .slice a1 n1 cap1, .slice a2 n2 cap2] w (RetFE (likeV zs0 zs1 zs2) (likeB zs0 zs1 zs2) w) := by
  have hl0 : n0 = zs0.length := h0.int.1.symm
  have hl1 : n1 = zs1.length := h1.int.1.symm
  have hl2 : n2 = zs2.length := h2.int.1.symm
  have H0 := Lib.hid h0
  have H1 := Lib.hid h1
  have H2 := Lib.hid h2
  obtain ⟨K0, hK0⟩ : ∃ b, keysB zs0 = b := ⟨_, rfl⟩
  obtain ⟨K1, hK1⟩ : ∃ b, keysB zs1 = b := ⟨_, rfl⟩
  obtain ⟨K2, hK2⟩ : ∃ b, keysB zs2 = b := ⟨_, rfl⟩
  have HK0 := Lib.hid hK0
  have HK1 := Lib.hid hK1
  have HK2 := Lib.hid hK2
  by_cases hB : likeB zs0 zs1 zs2 = true
  · rw [likeV_yes hB, hB, ← hl2]
    have hB' := hB
    unfold likeB at hB'
    simp only [Bool.and_eq_true, decide_eq_true_eq] at hB'
    obtain ⟨⟨⟨k0, k1⟩, k2⟩, q0, q1, q2, q3⟩ := hB'
    have e0 : ¬ (n0 : Int) < 1 := by omega
    have e1 : ¬ (n1 : Int) < 1 := by omega
    have e2 : ¬ (n2 : Int) < 1 := by omega
    have e3 : ¬ (32 : Int) < (n2 : Int) := by omega
    obtain rfl : K0 = true := by rw [← hK0]; exact k0
    obtain rfl : K1 = true := by rw [← hK1]; exact k1
    obtain rfl : K2 = true := by rw [← hK2]; exact k2
    rcases h2.int.2 with h00 | ⟨bs, offs, rfl, hc⟩
    · omega
    rcases h0.int.2 with h00 | ⟨b0, off0, rfl, hc0⟩
    · omega
    rcases h1.int.2 with h00 | ⟨b1, off1, rfl, hc1⟩
    · omega
    have HC := Lib.hid hc
    have HC0 := Lib.hid hc0
    have HC1 := Lib.hid hc1
    have HL2 := Lib.hid hl2
    have Q0 := Lib.hid q0
    have Q1 := Lib.hid q1
    have HN0 := Lib.hid (show ∀ s, leastAt (hashAt zs0 s) zs0.length < n0 from fun s => by rw [hl0]; exact leastAt_le _ _ q0)
    have HN1 := Lib.hid (show ∀ s, leastAt (hashAt zs1 s) zs1.length < n1 from fun s => by rw [hl1]; exact leastAt_le _ _ q1)
    clear hB h0 h1 h2 hl0 hl1 hl2 hc hc0 hc1 k0 k1 k2 q0 q1 q2 q3 hK0 hK1 hK2
    go_enter Try.func43, Try.ntmps43
    go_wp2_with fail
    refine (c_spec_l02Keys_of _ _ _ zs0 _ HK0.out hm0 H0.out).mono ?_; rintro e w' ⟨rfl, rfl⟩
    go_wp2_with fail
    refine (c_spec_l02Keys_of _ _ _ zs1 _ HK1.out hm1 H1.out).mono ?_; rintro e w' ⟨rfl, rfl⟩
    go_wp2_with fail
    refine (c_spec_l02Keys_of _ _ _ zs2 _ HK2.out hm2 H2.out).mono ?_; rintro e w' ⟨rfl, rfl⟩
    go_wp2
    go_loopw [8, 9] (fun c i wr => ∃ k q : Nat, k ≤ n2 ∧ i = .int .i64 k ∧ c = .int .i64 (likeC zs0 zs1 (zs2.take k) : Nat) ∧ wr = w.drewN q) (fun _ i _ => n2 - (intOf i).toNat)
    case atStart => exact ⟨0, 0, Nat.zero_le _, rfl, rfl, rfl⟩
    case round =>
      obtain ⟨k, q, hk, rfl, rfl, hw⟩ := hrel
      have HW := Lib.hid hw
      clear hw
      by_cases hlt : k < n2
      · obtain ⟨s, hs⟩ : ∃ s, zs2[k]?.getD 0 = s := ⟨_, rfl⟩
        have hcell : wr.cell? ⟨bs, offs + k, none⟩ = some (.int .i64 s) := by rw [HW.out, ← hs]; exact HC.out k hlt
        have HKS := Lib.hid (show keyB s = true by rw [← hs]; exact keysB_at HK2.out (by have := HL2.out; omega))
        obtain ⟨m0, hm0'⟩ : ∃ m, leastAt (hashAt zs0 s) zs0.length = m := ⟨_, rfl⟩
        obtain ⟨m1, hm1'⟩ : ∃ m, leastAt (hashAt zs1 s) zs1.length = m := ⟨_, rfl⟩
        have hm0n : m0 < n0 := by rw [← hm0']; exact HN0.out s
        have hm1n : m1 < n1 := by rw [← hm1']; exact HN1.out s
        obtain ⟨x, hx⟩ : ∃ x, zs0[m0]?.getD 0 = x := ⟨_, rfl⟩
        obtain ⟨y, hy⟩ : ∃ y, zs1[m1]?.getD 0 = y := ⟨_, rfl⟩
        have HM0 := Lib.hid hm0'
        have HM1 := Lib.hid hm1'
        have HST := Lib.hid (likeC_step zs0 zs1 zs2 k (by have := HL2.out; omega) hs (show keyAt zs0 s = x by unfold keyAt; rw [hm0', hx]) (show keyAt zs1 s = y by unfold keyAt; rw [hm1', hy]))
        obtain ⟨c, hcc⟩ : ∃ c, likeC zs0 zs1 (zs2.take k) = c := ⟨_, rfl⟩
        have hcl : c ≤ 32 := by
          have := likeC_le zs0 zs1 (zs2.take k)
          rw [hcc, List.length_take] at this
          omega
        rw [hcc] at HST ⊢
        have hcx : wr.cell? ⟨b0, off0 + m0, none⟩ = some (.int .i64 x) := by rw [HW.out, ← hx]; exact HC0.out m0 hm0n
        have hcy : wr.cell? ⟨b1, off1 + m1, none⟩ = some (.int .i64 y) := by rw [HW.out, ← hy]; exact HC1.out m1 hm1n
        have HR0 := Lib.hid (show ∀ n, Reads (wr.drewN n) (some ⟨b0, off0, none⟩) n0 (ints zs0) from fun n => by rw [HW.out]; exact H0.out)
        have HR1 := Lib.hid (show ∀ n, Reads (wr.drewN n) (some ⟨b1, off1, none⟩) n1 (ints zs1) from fun n => by rw [HW.out]; exact H1.out)
        clear hs hm0' hm1' hx hy hcc
        by_cases hxy : x = y
        · have HST' := Lib.hid (show likeC zs0 zs1 (zs2.take (k + 1)) = c + 1 by rw [HST.out, if_pos hxy])
          subst hxy
          go_wp2
          go_quiet (first | (go_at_call_of 53 (Value.slice (some ⟨b0, off0, none⟩) n0 cap0); exact Calls.quiet_of (c_spec_l02LeastAt_of _ _ _ zs0 s _ HM0.out HK0.out HKS.out Q0.out (HR0.out _))) | (go_at_call_of 53 (Value.slice (some ⟨b1, off1, none⟩) n1 cap1); exact Calls.quiet_of (c_spec_l02LeastAt_of _ _ _ zs1 s _ HM1.out HK1.out HKS.out Q1.out (HR1.out _))))
          go_wp2
          go_roundw
          case rel => exact ⟨k + 1, _, by omega, by go_num, by rw [HST'.out]; go_num, by rw [HW.out, World.drewN_drewN]⟩
          case measure => simp [intOf]; omega
        · have HST' := Lib.hid (show likeC zs0 zs1 (zs2.take (k + 1)) = c by rw [HST.out, if_neg hxy]; rfl)
          go_wp2
          go_quiet (first | (go_at_call_of 53 (Value.slice (some ⟨b0, off0, none⟩) n0 cap0); exact Calls.quiet_of (c_spec_l02LeastAt_of _ _ _ zs0 s _ HM0.out HK0.out HKS.out Q0.out (HR0.out _))) | (go_at_call_of 53 (Value.slice (some ⟨b1, off1, none⟩) n1 cap1); exact Calls.quiet_of (c_spec_l02LeastAt_of _ _ _ zs1 s _ HM1.out HK1.out HKS.out Q1.out (HR1.out _))))
          go_wp2
          go_roundw
          case rel => exact ⟨k + 1, _, by omega, by go_num, by rw [HST'.out], by rw [HW.out, World.drewN_drewN]⟩
          case measure => simp [intOf]; omega
      · obtain rfl : k = n2 := by omega
        have HTK := Lib.hid (show zs2.take k = zs2 from List.take_of_length_le (by have := HL2.out; omega))
        rw [HTK.out]
        obtain ⟨c, hcc⟩ : ∃ c, likeC zs0 zs1 zs2 = c := ⟨_, rfl⟩
        rw [hcc]
        have HCC := Lib.hid hcc
        clear hcc
        go_wp2
        go_ret2
        refine ⟨_, rfl, ?_, by rw [HW.out]; exact (Ext.drewN _ _).trans (Ext.drewN _ _)⟩
        try rw [HCC.out]
        simp only [fv_flR, fI]
  · have hBf : likeB zs0 zs1 zs2 = false := by simpa using hB
    rw [likeV_no hBf, hBf]
    have HNo := Lib.hid (show ¬ (K0 = true ∧ K1 = true ∧ K2 = true ∧ ¬ (n0 : Int) < 1 ∧ ¬ (n1 : Int) < 1 ∧ ¬ (n2 : Int) < 1 ∧ ¬ (32 : Int) < (n2 : Int)) from fun h => hB (likeB_mk (by rw [hK0]; exact h.1) (by rw [hK1]; exact h.2.1) (by rw [hK2]; exact h.2.2.1) (by omega)))
    clear hB hBf h0 h1 h2 hl0 hl1 hl2 hK0 hK1 hK2
    cases K0
    · go_enter Try.func43, Try.ntmps43
      go_wp2_with fail
      refine (c_spec_l02Keys_of _ _ _ zs0 _ HK0.out hm0 H0.out).mono ?_; rintro e w' ⟨rfl, rfl⟩
      go_wp2
      go_ret2
      exact RetFE.no _ _ (Ext.refl _)
    · cases K1
      · go_enter Try.func43, Try.ntmps43
        go_wp2_with fail
        refine (c_spec_l02Keys_of _ _ _ zs0 _ HK0.out hm0 H0.out).mono ?_; rintro e w' ⟨rfl, rfl⟩
        go_wp2_with fail
        refine (c_spec_l02Keys_of _ _ _ zs1 _ HK1.out hm1 H1.out).mono ?_; rintro e w' ⟨rfl, rfl⟩
        go_wp2
        go_ret2
        exact RetFE.no _ _ (Ext.refl _)
      · cases K2
        · go_enter Try.func43, Try.ntmps43
          go_wp2_with fail
          refine (c_spec_l02Keys_of _ _ _ zs0 _ HK0.out hm0 H0.out).mono ?_; rintro e w' ⟨rfl, rfl⟩
          go_wp2_with fail
          refine (c_spec_l02Keys_of _ _ _ zs1 _ HK1.out hm1 H1.out).mono ?_; rintro e w' ⟨rfl, rfl⟩
          go_wp2_with fail
          refine (c_spec_l02Keys_of _ _ _ zs2 _ HK2.out hm2 H2.out).mono ?_; rintro e w' ⟨rfl, rfl⟩
          go_wp2
          go_ret2
          exact RetFE.no _ _ (Ext.refl _)
        · have HF := Lib.hid (show (n0 : Int) < 1 ∨ (n1 : Int) < 1 ∨ (n2 : Int) < 1 ∨ (32 : Int) < (n2 : Int) by
            have := HNo.out
            simp only [true_and] at this
            omega)
          have step : ∀ (P : Prop), (∀ (_ : (n0 : Int) < 1), P) → (∀ (_ : ¬ (n0 : Int) < 1) (_ : (n1 : Int) < 1), P) → (∀ (_ : ¬ (n0 : Int) < 1) (_ : ¬ (n1 : Int) < 1) (_ : (n2 : Int) < 1), P) → (∀ (_ : ¬ (n0 : Int) < 1) (_ : ¬ (n1 : Int) < 1) (_ : ¬ (n2 : Int) < 1) (_ : (32 : Int) < (n2 : Int)), P) → P := by
            intro P p1 p2 p3 p4
            by_cases c1 : (n0 : Int) < 1
            · exact p1 c1
            · by_cases c2 : (n1 : Int) < 1
              · exact p2 c1 c2
              · by_cases c3 : (n2 : Int) < 1
                · exact p3 c1 c2 c3
                · exact p4 c1 c2 c3 (by have := HF.out; omega)
          apply step
          all_goals
            intros
            clear step
            go_enter Try.func43, Try.ntmps43
            go_wp2_with fail
            refine (c_spec_l02Keys_of _ _ _ zs0 _ HK0.out hm0 H0.out).mono ?_; rintro e w' ⟨rfl, rfl⟩
            go_wp2_with fail
            refine (c_spec_l02Keys_of _ _ _ zs1 _ HK1.out hm1 H1.out).mono ?_; rintro e w' ⟨rfl, rfl⟩
            go_wp2_with fail
            refine (c_spec_l02Keys_of _ _ _ zs2 _ HK2.out hm2 H2.out).mono ?_; rintro e w' ⟨rfl, rfl⟩
            go_wp2
            go_ret2
            exact RetFE.no _ _ (Ext.refl _)
end Go.Proofs.Ytdbllnmhlfkhbab
