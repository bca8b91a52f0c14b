/- NearPairs: the other side. -/
import Derived.Test.YtibldgcfplpdkaaNpb
import Derived.Deep.AppendLies
namespace Go.Proofs.Ytibldgcfplpdkaa
open Go.ChangeShapes Go.WideShapes Go.ChangeAt Go.RowKit
open Go.Proofs.Ytibldgcfplpdkaa.Flo
set_option linter.unusedVariables false
attribute [local go_sem] run_store_float
theorem ptsf_bad {zss : List (List Nat)} {i : Nat} (hi : i < zss.length) (h : vecB (rowS zss i) = false) : ptsf zss = false := by
  unfold ptsf; rw [allTo_no hi (by unfold ptf; rw [h]; rfl)]; simp
theorem ptsf_len {zss : List (List Nat)} {i : Nat} (hi : i < zss.length) (h : (rowS zss i).length ≠ (rowS zss 0).length) : ptsf zss = false := by
  unfold ptsf; rw [allTo_no hi (by unfold ptf; rw [decide_eq_false h]; simp)]; simp
theorem ptsf_yes {zss : List (List Nat)} (h1 : 1 ≤ zss.length) (h2 : zss.length ≤ 32) (h : ∀ i, i < zss.length → vecB (rowS zss i) = true ∧ (rowS zss i).length = (rowS zss 0).length) : ptsf zss = true := by
  rw [ptsf_all h1 h2]
  refine allTo_yes fun i hi => ?_
  unfold ptf; rw [(h i hi).1, decide_eq_true (h i hi).2]; rfl
def leastF (x : Nat) : Bool := isFin .f32 x && !ltZ x
theorem zero_fin : isFin .f32 0 = true := by rw [isFin_iff]; rfl
theorem geq_ltZ {x : Nat} (h : isFin .f32 x = true) : (FloatKind.f32.format.order x 0 == some .gt || FloatKind.f32.format.order x 0 == some .eq) = !ltZ x := by
  unfold ltZ
  rw [key_gt h zero_fin, key_eq h zero_fin, key_lt h zero_fin]
  by_cases h1 : fkey x < fkey 0
  · rw [decide_eq_true h1, decide_eq_false (by omega), decide_eq_false (by omega)]; rfl
  · rw [decide_eq_false h1]
    by_cases h2 : fkey x = fkey 0
    · rw [decide_eq_true h2]; simp
    · rw [decide_eq_true (show fkey 0 < fkey x by omega)]; rfl
theorem flos_take (zs : List Nat) (k : Nat) (h : k < zs.length) : flos (zs.take (k + 1)) = flos (zs.take k) ++ [.float .f32 (zs[k]?.getD 0)] := by
  unfold flos; rw [List.take_succ_eq_append_getElem h, List.map_append, List.getElem?_eq_getElem h]; rfl
theorem c_spec_l02Least (x : Nat) (w : World) {r : Bool} (hr : leastF x = r) : Calls Try.prog 127 #[.float .f32 x] w fun e w' => e = .returned (.bool r) ∧ ∃ q, w' = w.drewN q := by
  cases hf : isFin .f32 x
  · have HF := Lib.hid hf
    have HR := Lib.hid (show r = false by rw [← hr]; unfold leastF; rw [hf]; rfl)
    clear hf hr
    go_enter Try.func127, Try.ntmps127
    go_wp2_with fail
    refine (c_spec_l01Finite_b x _ HF.out).mono ?_; rintro e u ⟨rfl, q, rfl⟩
    go_wp2
    go_ret
    exact ⟨by rw [HR.out]; rfl, _, rfl⟩
  · have HF := Lib.hid hf
    have hge : (FloatKind.f32.format.order x 0 == some .gt || FloatKind.f32.format.order x 0 == some .eq) = r := by
      rw [geq_ltZ hf, ← hr]; unfold leastF; rw [hf]; rfl
    clear hf hr
    go_enter Try.func127, Try.ntmps127
    go_wp2_with fail
    refine (c_spec_l01Finite_b x _ HF.out).mono ?_; rintro e u ⟨rfl, q, rfl⟩
    go_wp2
    go_ret
    exact ⟨rfl, _, rfl⟩
set_option maxRecDepth 100000 in
set_option maxHeartbeats 8000000 in
theorem c_spec_NearPairs (a : Option Addr) (n cap : Nat) (hs : Nat → Hd) (zss : List (List Nat)) (far : Nat) (w : World) {rz : List Int} {rb : Bool} (hv : nearR zss far = (rz, rb)) (hl : n + totS zss n ≤ 1048576) (h : ReadsS flos w a n hs zss) (hb : BitsS zss) (hfar : far < 4294967296) :
    Calls Try.prog 34 #[.slice a n cap, .float .f32 far] w (RetSB 2 rz.length (ints rz) rb w) := by
  have hz := h.len
  subst hz
  obtain ⟨i0, hi, hz0, hz1, hz2⟩ := info_parts info_i64
  obtain ⟨j0, hj, hy0, hy1, hy2⟩ := info_parts info_f32
  have H := Lib.hid h
  by_cases h1 : 1 ≤ zss.length
  case neg =>
    rw [nearR_no (nearOk_1 (ptsf_lo h1))] at hv
    cases hv
    have h1' : (zss.length : Int) < 1 := by omega
    clear h hl h1
    go_enter Try.func34, Try.ntmps34
    go_wp2
    go_ret2
    exact RetSB.nil _ _
  have h1' : ¬ (zss.length : Int) < 1 := by omega
  by_cases h2 : zss.length ≤ 32
  case neg =>
    rw [nearR_no (nearOk_1 (ptsf_hi h2))] at hv
    cases hv
    have h2' : 32 < (zss.length : Int) := by omega
    have h2'' : ¬ (zss.length : Int) ≤ 32 := by omega
    clear h hl h1 h2
    go_enter Try.func34, Try.ntmps34
    go_wp2
    go_ret2
    exact RetSB.nil _ _
  have h2' : (zss.length : Int) ≤ 32 := by omega
  cases hf : leastF far
  · have hno : nearOk zss far = false := by
      unfold leastF at hf; unfold nearOk; rw [hf]; simp
    rw [nearR_no hno] at hv
    cases hv
    have HF := Lib.hid hf
    clear h hl h1 h2 hf hno
    go_enter Try.func34, Try.ntmps34
    go_wp2_with fail
    refine (c_spec_l02Least far _ HF.out).mono ?_; rintro e u ⟨rfl, q, rfl⟩
    go_wp2
    go_ret2
    exact (RetSB.nil _ _).onf (Ext.drewN _ _)
  obtain ⟨b, off, rfl⟩ : ∃ b off, a = some ⟨b, off, none⟩ := by
    rcases h.o.2 with h0 | ⟨b, off, h0, _⟩
    · omega
    · exact ⟨b, off, h0⟩
  have HC := Lib.hid (show ∀ i, i < zss.length → w.cell? ⟨b, off + i, none⟩ = some (.slice (hs i).a (rowS zss i).length (hs i).c) from fun i hi => by
    rcases h.cells with h0 | ⟨b', off', he, hc⟩
    · omega
    · cases he; exact hc i hi)
  have HTL := Lib.hid (show ∀ k, k < zss.length → (rowS zss k).length ≤ 1048576 from fun k hk => by have := totS_row zss hk; omega)
  have HFL := Lib.hid hf
  have HFF := Lib.hid (show isFin .f32 far = true ∧ ltZ far = false by unfold leastF at hf; simpa using hf)
  have HV := Lib.hid hv
  have HH1 := Lib.hid (And.intro h1 h2)
  have hpos : 0 < zss.length := by omega
  obtain ⟨L, hL⟩ : ∃ L, (rowS zss 0).length = L := ⟨_, rfl⟩
  have HLL := Lib.hid hL
  have HC0 := Lib.hid (show w.cell? ⟨b, off, none⟩ = some (.slice (hs 0).a L (hs 0).c) by have := HC.out 0 hpos; rwa [hL] at this)
  have hposI : (0 : Int) < (zss.length : Int) := by omega
  obtain ⟨n, hn⟩ : ∃ n, zss.length = n := ⟨_, rfl⟩
  have HN := Lib.hid hn
  rw [hn] at h1' h2' hposI hpos HC HTL
  rw [hn]
  clear h hl h1 h2 hf hv hL hn
  go_enter Try.func34, Try.ntmps34
  go_wp2_with fail
  refine (c_spec_l02Least far _ HFL.out).mono ?_; rintro e u0 ⟨rfl, q, hq⟩
  have X0 := Lib.hid (show Ext w u0 by rw [hq]; exact Ext.drewN _ _)
  clear hq
  go_wp2
  go_loopw [29] (fun i wr => ∃ k : Nat, k ≤ n ∧ i = .int .i64 k ∧ Ext w wr ∧ ∀ j, j < k → vecB (rowS zss j) = true ∧ (rowS zss j).length = L) (fun i _ => n - (intOf i).toNat)
  case atStart => exact ⟨0, Nat.zero_le _, rfl, X0.out, fun j hj => absurd hj (Nat.not_lt_zero _)⟩
  case round =>
    obtain ⟨k, hk, rfl, hx, hall⟩ := hrel
    have HX := Lib.hid hx
    have HA := Lib.hid hall
    clear hall hx
    by_cases hlt : k < n
    · have hltI : (k : Int) < (n : Int) := by omega
      have cz := HX.out.some (HC.out k hlt)
      have cz0 := HX.out.some HC0.out
      obtain ⟨d, hd⟩ : ∃ d, (rowS zss k).length = d := ⟨_, rfl⟩
      have HDD := Lib.hid hd
      have HRD := Lib.hid (show Reads wr (hs k).a d (flos (rowS zss k)) by have h1 := (H.out.on HX.out).r k (by rw [HN.out]; exact hlt); rwa [hd] at h1)
      have HDM := Lib.hid (show d ≤ maxLen by unfold maxLen; have := HTL.out k hlt; omega)
      have hdI : (d : Int) ≤ 1048576 := by have := HTL.out k hlt; omega
      rw [hd] at cz
      clear hd
      cases hvb : vecB (rowS zss k)
      · have hv2 : ([], false) = (rz, rb) := by rw [← HV.out, nearR_no (nearOk_1 (ptsf_bad (i := k) (by rw [HN.out]; exact hlt) hvb))]
        cases hv2
        have HVB := Lib.hid hvb
        clear hvb
        go_wp2
        go_quiet ((go_at_call 128; exact Calls.quiet_of (c_spec_l07Vector _ d _ (rowS zss k) _ HVB.out HDM.out (HRD.out.on (Ext.drewN _ _)))))
        go_wp2
        go_ret2
        exact (RetSB.nil _ _).onf (HX.out.trans (Ext.drewN _ _))
      · have HVB := Lib.hid hvb
        by_cases hdl : d = L
        · subst hdl
          have e3 : ((d : Int) == (d : Int)) = true := by simp
          have e4 : ((d : Int) != (d : Int)) = false := by simp
          clear hvb
          go_wp2
          go_quiet ((go_at_call 128; exact Calls.quiet_of (c_spec_l07Vector _ d _ (rowS zss k) _ HVB.out HDM.out (HRD.out.on (Ext.drewN _ _)))))
          go_wp2
          go_roundw
          case rel => exact ⟨k + 1, by omega, by go_num, HX.out.trans (Ext.drewN _ _), fun j hj => by
            by_cases e : j = k
            · subst e; exact ⟨HVB.out, HDD.out⟩
            · exact HA.out j (by omega)⟩
          case measure => simp [intOf]; omega
        · have e3 : ((d : Int) == (L : Int)) = false := by simp; omega
          have e4 : ((d : Int) != (L : Int)) = true := by simp; omega
          have hv2 : ([], false) = (rz, rb) := by rw [← HV.out, nearR_no (nearOk_1 (ptsf_len (i := k) (by rw [HN.out]; exact hlt) (by rw [HDD.out, HLL.out]; exact hdl)))]
          cases hv2
          clear hvb hdl
          go_wp2
          go_quiet ((go_at_call 128; exact Calls.quiet_of (c_spec_l07Vector _ d _ (rowS zss k) _ HVB.out HDM.out (HRD.out.on (Ext.drewN _ _)))))
          go_wp2
          go_ret2
          exact (RetSB.nil _ _).onf (HX.out.trans (Ext.drewN _ _))
    · have hkn : k = n := by omega
      subst hkn
      have hlt' : ¬ (k : Int) < (k : Int) := by omega
      have HPT := Lib.hid (show ptsf zss = true from ptsf_yes HH1.out.1 HH1.out.2 fun i hi => by rw [HLL.out]; exact HA.out i (by rw [← HN.out]; exact hi))
      have HVP := Lib.hid (show pairsR (npP zss far) (npQ zss) k = (rz, rb) by rw [← HV.out, nearR_yes (nearOk_y HPT.out HFF.out.1 HFF.out.2), HN.out])
      have HLE := Lib.hid (show ∀ i, i < k → (rowS zss i).length = L ∧ finB (rowS zss i) = true from fun i hi => ⟨(HA.out i hi).2, (vec_fin (HA.out i hi).1).2⟩)
      have HL32 := Lib.hid (show L ≤ 32 by rw [← HLL.out]; exact (vec_fin (HA.out 0 hpos).1).1)
      have HPE := Lib.hid (show ∀ i j v r, normR (diffL (rowS zss i) (rowS zss j)) = (v, r) → npP zss far i j = leV v (fv .f32 far) ∧ npQ zss i j = r from fun i j v r h => by unfold npP npQ; rw [h]; exact ⟨rfl, rfl⟩)
      obtain ⟨P, hP⟩ : ∃ P, npP zss far = P := ⟨_, rfl⟩
      obtain ⟨Q, hQ⟩ : ∃ Q, npQ zss = Q := ⟨_, rfl⟩
      rw [hP, hQ] at HVP HPE
      have HBD := Lib.hid (show ∀ i j, i ≤ k → j ≤ k → (prAll P k i ++ prRow P i j).length ≤ 4096 from fun i j hi hj => by
        have h1 := prAll_le P k i
        have h2 := prRow_le P i j
        have h3 : 2 * k * i ≤ 2 * 32 * 32 := Nat.mul_le_mul (by omega) (by omega)
        rw [List.length_append]; omega)
      have HX0 := Lib.hid HX.out.size
      clear hP hQ
      obtain ⟨w1, rfl⟩ : ∃ w1 : World, w1 = wr := ⟨_, rfl⟩
      go_wp2
      go_loopw [7, 54] (fun v i wr => ∃ t : Nat, t ≤ k ∧ i = .int .i64 t ∧ wr.ownsRow w.heap.size 2 1 v (prAll P k t).length (ints (prAll P k t)) ∧ Ext w wr ∧ ∀ s u, s < t → s < u → u < k → Q s u = true) (fun _ i _ => k - (intOf i).toNat)
      case atStart => exact ⟨0, Nat.zero_le _, rfl, World.ownsRow_made _ _ _ HX0.out (Nat.zero_le _) rfl, HX.out.trans (Ext.alloc _ _), fun s u h => absurd h (Nat.not_lt_zero _)⟩
      case round =>
        obtain ⟨i, hik, rfl, hown, hext, hall⟩ := hrel
        have HO := Lib.hid hown
        have HE := Lib.hid hext
        have HAL := Lib.hid hall
        clear hall
        by_cases hlt : i < k
        · have hltI : (i : Int) < (k : Int) := by omega
          clear hown hext
          obtain ⟨wo, rfl⟩ : ∃ wo : World, wo = wr := ⟨_, rfl⟩
          go_wp2
          go_loopw [7, 9] (fun v t wr => ∃ j : Nat, i + 1 + j ≤ k ∧ t = .int .i64 ((i + 1 + j : Nat) : Int) ∧ wr.ownsRow w.heap.size 2 1 v (prAll P k i ++ prRow P i j).length (ints (prAll P k i ++ prRow P i j)) ∧ Ext w wr ∧ ∀ s, s < j → Q i (i + 1 + s) = true) (fun _ t _ => k - (intOf t).toNat)
          case atStart => exact ⟨0, by omega, rfl, by rw [show prRow P i 0 = [] from rfl, List.append_nil]; exact HO.out, HE.out, fun s h => absurd h (Nat.not_lt_zero _)⟩
          case round =>
            obtain ⟨j, hj', rfl, hown, hext, hall⟩ := hrel
            have HO2 := Lib.hid hown
            have HE2 := Lib.hid hext
            have HA2 := Lib.hid hall
            clear hown hext hall
            have hbd := HBD.out i j (by omega) (by omega)
            obtain ⟨t, ht⟩ : ∃ t, i + 1 + j = t := ⟨_, rfl⟩
            have HK := Lib.hid ht
            have htI : (t : Int) = (i : Int) + 1 + (j : Int) := by omega
            have HKI := Lib.hid htI
            rw [ht]
            by_cases hlt2 : t < k
            · have hlt2I : (t : Int) < (k : Int) := by omega
              have hit2 : i < t := by omega
              obtain ⟨wi, rfl⟩ : ∃ wi : World, wi = wr := ⟨_, rfl⟩
              have HCI := Lib.hid (show w.cell? ⟨b, off + i, none⟩ = some (.slice (hs i).a L (hs i).c) by have := HC.out i hlt; rwa [(HLE.out i hlt).1] at this)
              have HCT := Lib.hid (show w.cell? ⟨b, off + t, none⟩ = some (.slice (hs t).a L (hs t).c) by have := HC.out t hlt2; rwa [(HLE.out t hlt2).1] at this)
              have RI := Lib.hid (show Reads w (hs i).a L (flos (rowS zss i)) by have := H.out.r i (by rw [HN.out]; exact hlt); rwa [(HLE.out i hlt).1] at this)
              have RT := Lib.hid (show Reads w (hs t).a L (flos (rowS zss t)) by have := H.out.r t (by rw [HN.out]; exact hlt2); rwa [(HLE.out t hlt2).1] at this)
              have FI := Lib.hid (HLE.out i hlt).2
              have FT := Lib.hid (HLE.out t hlt2).2
              obtain ⟨xs, hxs⟩ : ∃ xs, rowS zss i = xs := ⟨_, rfl⟩
              obtain ⟨ys, hys⟩ : ∃ ys, rowS zss t = ys := ⟨_, rfl⟩
              obtain ⟨⟨nv, nb⟩, hnv⟩ : ∃ p, normR (diffL xs ys) = p := ⟨_, rfl⟩
              have HPQ := Lib.hid (HPE.out i t nv nb (by rw [hxs, hys]; exact hnv))
              have HNV := Lib.hid hnv
              rw [hxs] at RI FI
              rw [hys] at RT FT
              have LX := Lib.hid RI.out.flo.1
              have LY := Lib.hid RT.out.flo.1
              have HBT := Lib.hid (diffL_bits FI.out FT.out (by rw [LX.out, LY.out]))
              have HDL := Lib.hid (show (diffL xs ys).length = L by rw [diffL_length, LX.out])
              obtain ⟨ai, hai⟩ : ∃ a, (hs i).a = a := ⟨_, rfl⟩
              obtain ⟨atd, hat⟩ : ∃ a, (hs t).a = a := ⟨_, rfl⟩
              obtain ⟨ci, hci⟩ : ∃ c, (hs i).c = c := ⟨_, rfl⟩
              obtain ⟨ct, hct⟩ : ∃ c, (hs t).c = c := ⟨_, rfl⟩
              rw [hai] at HCI RI
              rw [hat] at HCT RT
              rw [hci] at HCI
              rw [hct] at HCT
              have cci := ((HE2.out.stepA (.cells #[] 37))).some HCI.out
              have hLI : (L : Int) ≤ 32 := by have := HL32.out; omega
              clear hnv hxs hys hai hat hci hct ht htI
              go_wp2
              clear cci
              go_loopw [10, 71] (fun v j wr => ∃ m : Nat, m ≤ L ∧ j = .int .i64 m ∧ wr.ownsRow wi.heap.size 37 1 v m (flos ((diffL xs ys).take m)) ∧ Ext wi wr) (fun _ j _ => L - (intOf j).toNat)
              case atStart => exact ⟨0, Nat.zero_le _, rfl, World.ownsRow_made _ _ _ (Nat.le_refl _) (Nat.zero_le _) rfl, Ext.alloc _ _⟩
              case round =>
                obtain ⟨m, hm, rfl, hown, hext⟩ := hrel
                have HO3 := Lib.hid hown
                have HE3 := Lib.hid hext
                have HES := Lib.hid hext.size
                by_cases hlt3 : m < L
                · have hlt3I : (m : Int) < (L : Int) := by omega
                  clear hown hext
                  rcases RI.out.flo.2 with h0 | ⟨bi, oi, hbi, hc1⟩
                  · omega
                  rcases RT.out.flo.2 with h0 | ⟨bt, ot, hbt, hc2⟩
                  · omega
                  subst hbi
                  subst hbt
                  have hcx := hc1 m hlt3
                  have hcy := hc2 m hlt3
                  have f1 := finB_at FI.out (i := m) (by rw [LX.out]; exact hlt3)
                  have f2 := finB_at FT.out (i := m) (by rw [LY.out]; exact hlt3)
                  have g1 := diffL_get xs ys m (by rw [LX.out]; exact hlt3)
                  obtain ⟨x, hx⟩ : ∃ x, xs[m]?.getD 0 = x := ⟨_, rfl⟩
                  obtain ⟨y, hy⟩ : ∃ y, ys[m]?.getD 0 = y := ⟨_, rfl⟩
                  rw [hx] at hcx f1 g1
                  rw [hy] at hcy f2 g1
                  have hsub := fun wx : World => run_subF (P := Try.prog) (t := 37) f1 f2 wx
                  obtain ⟨d, hd⟩ : ∃ d, subF x y = d := ⟨_, rfl⟩
                  rw [hd] at hsub g1
                  have HT := Lib.hid (show flos ((diffL xs ys).take (m + 1)) = flos ((diffL xs ys).take m) ++ [.float .f32 d] by rw [flos_take _ m (by rw [HDL.out]; exact hlt3), g1])
                  have HWX := Lib.hid hcx
                  have HWY := Lib.hid hcy
                  have HE23 := Lib.hid (HE2.out.trans HE3.out)
                  have k1 := HE23.out.some HCI.out
                  have k2 := HE23.out.some HCT.out
                  have k3 := HE23.out.some hcx
                  have k4 := HE23.out.some hcy
                  clear hc1 hc2 hx hy f1 f2 g1 hd hcx hcy
                  go_wp2_with fail
                  go_region_held3 (fun w' => w'.cell? ⟨b, off + i, none⟩ = some (.slice (some ⟨bi, oi, none⟩) L ci) ∧ w'.cell? ⟨b, off + t, none⟩ = some (.slice (some ⟨bt, ot, none⟩) L ct) ∧ w'.cell? ⟨bi, oi + m, none⟩ = some (.float .f32 x) ∧ w'.cell? ⟨bt, ot + m, none⟩ = some (.float .f32 y)) (first | exact ⟨KA, KB, KC, KD⟩ | exact ⟨Ext.some (HE23.out.trans (by (repeat (first | assumption | exact Ext.refl _ | (with_reducible refine Ext.stepS ?_ (by first | exact Nat.le_refl _ | (simp; done) | (simp; omega)) _) | (with_reducible refine Ext.stepN ?_ _) | (with_reducible refine Ext.stepD ?_) | (with_reducible refine Ext.stepA ?_ _))))) HCI.out, Ext.some (HE23.out.trans (by (repeat (first | assumption | exact Ext.refl _ | (with_reducible refine Ext.stepS ?_ (by first | exact Nat.le_refl _ | (simp; done) | (simp; omega)) _) | (with_reducible refine Ext.stepN ?_ _) | (with_reducible refine Ext.stepD ?_) | (with_reducible refine Ext.stepA ?_ _))))) HCT.out, Ext.some (HE23.out.trans (by (repeat (first | assumption | exact Ext.refl _ | (with_reducible refine Ext.stepS ?_ (by first | exact Nat.le_refl _ | (simp; done) | (simp; omega)) _) | (with_reducible refine Ext.stepN ?_ _) | (with_reducible refine Ext.stepD ?_) | (with_reducible refine Ext.stepA ?_ _))))) HWX.out, Ext.some (HE23.out.trans (by (repeat (first | assumption | exact Ext.refl _ | (with_reducible refine Ext.stepS ?_ (by first | exact Nat.le_refl _ | (simp; done) | (simp; omega)) _) | (with_reducible refine Ext.stepN ?_ _) | (with_reducible refine Ext.stepD ?_) | (with_reducible refine Ext.stepA ?_ _))))) HWY.out⟩)
                    ((refine step_append_lies _ rfl (.tmp 74) (.tmp 90) 33 rfl wi.heap.size 37 j0 _ 1 4 Try.underlying33 hj hy0 hy1 hy2 rfl (by decide) _ m (flos ((diffL xs ys).take m)) (by rfl) (owns_on_f HO3.out (by (repeat (first | assumption | exact Ext.refl _ | (with_reducible refine Ext.stepS ?_ (by first | exact Nat.le_refl _ | (simp; done) | (simp; omega)) _) | (with_reducible refine Ext.stepN ?_ _) | (with_reducible refine Ext.stepD ?_) | (with_reducible refine Ext.stepA ?_ _))))) ⟨wr.heap.size, 0, none⟩ 1 1 [.float .f32 d] (by rfl) (by rfl) (one_cell_at _ _ _) (by intro u hu; simp at hu; subst hu; rfl) (by decide) (by unfold maxLen; omega) (by omega) (by have := HES.out; first | omega | (simp; omega)) (wr.heap.size + 1) (by first | omega | (simp; done) | (simp; omega)) ?_; intro gg c2 w3 hown1 hgrow hat hlt1; have EA : Ext wi w3 := Below.grown (show Ext _ _ by have he := HE3.out; (repeat (first | assumption | exact Ext.refl _ | (with_reducible refine Ext.stepS ?_ (by first | exact Nat.le_refl _ | (simp; done) | (simp; omega)) _) | (with_reducible refine Ext.stepN ?_ _) | (with_reducible refine Ext.stepD ?_) | (with_reducible refine Ext.stepA ?_ _)))) hgrow (by have := HES.out; first | omega | (simp; omega)) (fun j hj => by have := (HO3.out.lt j hj).1; first | omega | (simp; omega)); have KA := Ext.some (HE2.out.trans EA) HCI.out; have KB := Ext.some (HE2.out.trans EA) HCT.out; have KC := Ext.some (HE2.out.trans EA) HWX.out; have KD := Ext.some (HE2.out.trans EA) HWY.out; have OW := Lib.hid hown1; have EH := Lib.hid EA; clear hown1 hgrow))
                  clear k1 k2 k3 k4
                  go_wp2
                  go_roundw
                  case rel => exact ⟨m + 1, by omega, by go_num, by rw [HT.out]; exact OW.out, EH.out⟩
                  case measure => simp [intOf]; omega
                · have hmL : m = L := by omega
                  subst hmL
                  have hlt3' : ¬ (m : Int) < (m : Int) := by omega
                  obtain ⟨a', c', hv', ho⟩ := Own.of_row (e := 0) hown
                  subst hv'
                  rw [List.take_of_length_le (by rw [HDL.out]; exact Nat.le_refl _)] at ho
                  have HD := Lib.hid ho
                  have HMB := Lib.hid (show m ≤ 1048576 by have := HL32.out; omega)
                  clear ho hown hext
                  cases nb
                  · have hv2 : ([], false) = (rz, rb) := by rw [← HVP.out, pairsR_no (okAll_no hit2 hlt2 HPQ.out.2)]
                    cases hv2
                    go_wp2_with (go_at_call 129; refine (c_spec_NormOf _ m _ (diffL xs ys) _ HNV.out HMB.out HD.out.reads HBT.out).mono ?_; rintro e u2 ⟨f, rfl, hf, x2⟩; have X2 := Lib.hid x2; clear hf x2)
                    go_ret2
                    exact (RetSB.nil _ _).onf ((HE2.out.trans HE3.out).trans X2.out)
                  · have HNN := Lib.hid (show ∀ s, s < j + 1 → Q i (i + 1 + s) = true from fun s hs => by
                      by_cases e : s = j
                      · subst e; rw [HK.out]; exact HPQ.out.2
                      · exact HA2.out s (by omega))
                    cases hpv : leV nv (fv .f32 far)
                    · have HR := Lib.hid (prRow_no_f (p := P) (i := i) (j := j) (by rw [HK.out, HPQ.out.1]; exact hpv))
                      have HPV := Lib.hid hpv
                      clear hpv
                      go_wp2_with (go_at_call 129; refine (c_spec_NormOf _ m _ (diffL xs ys) _ HNV.out HMB.out HD.out.reads HBT.out).mono ?_; rintro e u2 ⟨f, rfl, hf, x2⟩; have X2 := Lib.hid ((HE2.out.trans HE3.out).trans x2); have X3 := Lib.hid (HE3.out.trans x2); have hle : (FloatKind.f32.format.order f far == some .lt || FloatKind.f32.format.order f far == some .eq) = false := (by have h9 := leF_fv f far; rw [hf, HPV.out] at h9; exact h9); clear hf x2)
                      go_roundw
                      case rel => exact ⟨j + 1, by have := HK.out; omega, by first | (rw [show i + 1 + (j + 1) = t + 1 by have := HK.out; omega]; go_num), by rw [HR.out]; exact owns_on_f HO2.out X3.out, X2.out, HNN.out⟩
                      case measure => simp [intOf]; omega
                    · have HR := Lib.hid (prRow_yes_f (p := P) (i := i) (j := j) (by rw [HK.out, HPQ.out.1]; exact hpv))
                      have HPV := Lib.hid hpv
                      obtain ⟨N, hN⟩ : ∃ N, prAll P k i ++ prRow P i j = N := ⟨_, rfl⟩
                      have HM := Lib.hid hN
                      rw [hN] at HO2 hbd
                      obtain ⟨l, hl⟩ : ∃ l, N.length = l := ⟨_, rfl⟩
                      have HML := Lib.hid hl
                      rw [hl] at HO2 hbd
                      clear hN hl hpv
                      go_wp2_with (first | (go_at_call 129; refine (c_spec_NormOf _ m _ (diffL xs ys) _ HNV.out HMB.out HD.out.reads HBT.out).mono ?_; rintro e u2 ⟨f, rfl, hf, x2⟩; have X2 := Lib.hid ((HE2.out.trans HE3.out).trans x2); have X3 := Lib.hid (HE3.out.trans x2); have hle : (FloatKind.f32.format.order f far == some .lt || FloatKind.f32.format.order f far == some .eq) = true := (by have h9 := leF_fv f far; rw [hf, HPV.out] at h9; exact h9); clear hf x2) | (at_builtin; refine wpList_append_own _ rfl _ _ 24 rfl w.heap.size 2 i0 (.int .i64 0) 1 8 Try.underlying24 hi hz0 hz1 hz2 rfl (by decide) _ _ _ rfl ((owns_on_f HO2.out X3.out).alloc _) ⟨_, 0, none⟩ 2 2 [.int .i64 (i : Int), .int .i64 (t : Int)] rfl rfl (by first | exact two_cell_at_f _ _ _ _) (by intro u hu; simp at hu; rcases hu with rfl | rfl <;> rfl) (by unfold maxLen; omega) (by omega) (by have := X2.out.size; simp; omega) ?_; intro v' w3 hown' hgrow _; have HO4 := Lib.hid hown'; have HE4 := Lib.hid (app_step X2.out (owns_on_f HO2.out X3.out) hgrow); clear hown' hgrow HO2))
                      go_roundw
                      case rel => exact ⟨j + 1, by have := HK.out; omega, by first | (rw [show i + 1 + (j + 1) = t + 1 by have := HK.out; omega]; go_num), by rw [HR.out, ← List.append_assoc, HM.out, List.length_append, HML.out, ints_app_f, HK.out]; exact HO4.out, HE4.out, HNN.out⟩
                      case measure => simp [intOf]; omega
            · have htn : t = k := by omega
              subst htn
              have hlt2' : ¬ (t : Int) < (t : Int) := by omega
              have HR := Lib.hid (prAll_row P (n := t) (i := i) (j := j) HK.out)
              have HNN := Lib.hid (show ∀ s u, s < i + 1 → s < u → u < t → Q s u = true from fun s u h1 h2 h3 => by
                by_cases e : s = i
                · subst e
                  have := HA2.out (u - (s + 1)) (by have := HK.out; omega)
                  rwa [show s + 1 + (u - (s + 1)) = u by omega] at this
                · exact HAL.out s u (by omega) h2 h3)
              rw [HR.out] at HO2
              clear ht htI hbd
              go_wp2
              go_roundw
              case rel => exact ⟨i + 1, by omega, by go_num, HO2.out, HE2.out, HNN.out⟩
              case measure => simp [intOf]; omega
        · have hin : i = k := by omega
          subst hin
          have hlt2' : ¬ (i : Int) < (i : Int) := by omega
          have hv2 : (prAll P i i, true) = (rz, rb) := by rw [← HVP.out, pairsR_yes (okAll_yes fun s t h1 h2 => HAL.out s t (by omega) h1 h2)]
          cases hv2
          obtain ⟨a', c', hv', ho⟩ := Own.of_row (e := 0) hown
          subst hv'
          have HO' := Lib.hid ho
          clear ho hown hext
          go_wp2
          go_ret2
          exact ⟨a', c', rfl, HO'.out, HE.out⟩
end Go.Proofs.Ytibldgcfplpdkaa
