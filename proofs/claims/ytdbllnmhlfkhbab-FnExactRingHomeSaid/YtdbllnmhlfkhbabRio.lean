/- RingHome: what the other side answers. -/
import Derived.Test.YtdbllnmhlfkhbabRin
namespace Go.Proofs.Ytdbllnmhlfkhbab
open Go.ChangeShapes Go.WideShapes Go.ChangeAt Go.RowKit
set_option linter.unusedVariables false
theorem c_spec_l02Both_to (key salt : Int) (w : World) {b : Bool} (h : (keyB key && keyB salt) = b) : Calls Try.prog 64 #[.int .i64 key, .int .i64 salt] w fun e w' => e = .returned (.bool b) ∧ w = w' := by
  subst h; exact c_spec_l02Both key salt w
theorem c_spec_l02Hash_q (key salt v : Int) (w : World) (hk : keyB key = true) (hs : keyB salt = true) (hv : ((hashN key salt : Nat) : Int) = v) : Calls Try.prog 54 #[.int .i64 key, .int .i64 salt] w fun e w' => e = .returned (.int .i64 v) ∧ w = w' := by
  subst hv; exact c_spec_l02Hash key salt w hk hs
theorem mod_lt' {p n : Nat} (h : p < n) : p % n = p := Nat.mod_eq_of_lt h
set_option maxHeartbeats 2000000 in
theorem c_spec_RingHome (key salt : Int) (a : Option Addr) (n cap : Nat) (zs : List Int) (w : World) (hm : n ≤ maxLen) (h : Reads w a n (ints zs)) :
    Calls Try.prog 35 #[.int .i64 key, .int .i64 salt, .slice a n cap] w fun e w' => e = .returned (.tuple #[.int .i64 (ringV key salt zs), .bool (ringB key salt zs)]) ∧ Ext w w' := by
  have hlen : n = zs.length := h.int.1.symm
  have H := Lib.hid h
  cases hb : keyB key && keyB salt
  · have HB := Lib.hid hb
    have HR := Lib.hid (ringB_1 (zs := zs) hb)
    rw [ringV_no HR.out, HR.out]
    clear hb h hlen
    go_enter Try.func35, Try.ntmps35
    go_wp2_with (go_at_call 64; refine (c_spec_l02Both_to key salt _ HB.out).mono ?_; rintro e w' ⟨rfl, rfl⟩)
    go_ret2
    exact ⟨rfl, Ext.refl _⟩
  · have HB := Lib.hid hb
    have hb2 : keyB key = true ∧ keyB salt = true := by simpa using hb
    cases hks : keysB zs
    · have HKS := Lib.hid hks
      have HR := Lib.hid (ringB_2 (key := key) (salt := salt) hks)
      rw [ringV_no HR.out, HR.out]
      clear hb h hlen hks hb2
      go_enter Try.func35, Try.ntmps35
      go_wp2_with fail
      refine (c_spec_l02Both_to key salt _ HB.out).mono ?_; rintro e w' ⟨rfl, rfl⟩
      go_wp2_with (go_at_call 47; refine (c_spec_l02Keys_of _ _ _ zs _ HKS.out hm H.out).mono ?_; rintro e w' ⟨rfl, rfl⟩)
      go_ret2
      exact ⟨rfl, Ext.refl _⟩
    · have HKS := Lib.hid hks
      have hzl := keysB_len hks
      by_cases h0 : n < 1
      · have HR := Lib.hid (ringB_3 (key := key) (salt := salt) (zs := zs) (by omega))
        rw [ringV_no HR.out, HR.out]
        have h0' : (n : Int) < 1 := by omega
        clear hb h hlen hks hb2 h0 hzl
        go_enter Try.func35, Try.ntmps35
        go_wp2_with fail
        refine (c_spec_l02Both_to key salt _ HB.out).mono ?_; rintro e w' ⟨rfl, rfl⟩
        go_wp2_with (go_at_call 47; refine (c_spec_l02Keys_of _ _ _ zs _ HKS.out hm H.out).mono ?_; rintro e w' ⟨rfl, rfl⟩)
        go_ret2
        exact ⟨rfl, Ext.refl _⟩
      · have h1 : 1 ≤ n := by omega
        have hn2 : n ≤ 256 := by omega
        have h0' : ¬ (n : Int) < 1 := by omega
        obtain ⟨v, hv⟩ : ∃ v : Int, ((hashN key salt : Nat) : Int) = v := ⟨_, rfl⟩
        have HV := Lib.hid hv
        have HK2 := Lib.hid hb2
        rcases h.int.2 with h00 | ⟨b, off, rfl, hc⟩
        · omega
        obtain ⟨f, hf⟩ : ∃ f, atZ zs = f := ⟨_, rfl⟩
        have HC := Lib.hid (show ∀ i, i < n → w.cell? ⟨b, off + i, none⟩ = some (.int .i64 (f i)) from by rw [← hf]; exact hc)
        have HNo := Lib.hid (show sortedB f n = false → ringB key salt zs = false from fun hs => ringB_4 (by rw [hf, ← hlen]; exact hs))
        have HYes := Lib.hid (show sortedB f n = true → ringB key salt zs = true ∧ ringV key salt zs = ((posN f v n % n : Nat) : Int) from fun hs => by
          have hr := ringB_mk hb hks (show 1 ≤ zs.length by omega) (by rw [hf, ← hlen]; exact hs)
          exact ⟨hr, by rw [ringV_yes hr, hf, hv, ← hlen]⟩)
        have HVNo := Lib.hid (show ringB key salt zs = false → ringV key salt zs = 0 from ringV_no)
        obtain ⟨rb, hrb⟩ : ∃ rb, ringB key salt zs = rb := ⟨_, rfl⟩
        obtain ⟨rv, hrv⟩ : ∃ rv, ringV key salt zs = rv := ⟨_, rfl⟩
        rw [hrb] at HNo HYes HVNo
        rw [hrv] at HYes HVNo
        rw [hrb, hrv]
        clear hb h hlen hks hb2 h0 hzl hc hf hv hrb hrv
        go_enter Try.func35, Try.ntmps35
        go_wp2_with fail
        refine (c_spec_l02Both_to key salt _ HB.out).mono ?_; rintro e w' ⟨rfl, rfl⟩
        go_wp2_with (go_at_call 47; refine (c_spec_l02Keys_of _ _ _ zs _ HKS.out hm H.out).mono ?_; rintro e w' ⟨rfl, rfl⟩)
        go_loopw [8] (fun i wr => ∃ k q : Nat, 1 ≤ k ∧ k ≤ n ∧ i = .int .i64 k ∧ (∀ j, j + 1 < k → f j ≤ f (j + 1)) ∧ wr = w.drewN q) (fun i _ => n - (intOf i).toNat)
        case atStart => exact ⟨1, 0, by omega, h1, rfl, fun j h => by omega, rfl⟩
        case round =>
          obtain ⟨k, q, hk1, hk, rfl, hs, hw⟩ := hrel
          have HS := Lib.hid hs
          have HW := Lib.hid hw
          clear hs hw
          by_cases hlt : k < n
          · have hcx : wr.cell? ⟨b, off + k, none⟩ = some (.int .i64 (f k)) := by rw [HW.out]; exact HC.out k (by omega)
            have hcy : wr.cell? ⟨b, off + (k - 1), none⟩ = some (.int .i64 (f (k - 1))) := by rw [HW.out]; exact HC.out (k - 1) (by omega)
            obtain ⟨u, hu⟩ : ∃ u, f k = u := ⟨_, rfl⟩
            obtain ⟨v', hv'⟩ : ∃ v', f (k - 1) = v' := ⟨_, rfl⟩
            rw [hu] at hcx
            rw [hv'] at hcy
            have hk1' : ((k : Int) - 1) = ((k - 1 : Nat) : Int) := by omega
            by_cases hlt2 : u < v'
            · have HF := Lib.hid (HNo.out (sortedB_no (f := f) (n := n) (i := k - 1) (by omega) (by rw [show k - 1 + 1 = k by omega, hu, hv']; exact hlt2)))
              have HG := Lib.hid (HVNo.out HF.out)
              clear hu hv'
              go_wp2
              go_region
              all_goals
                go_wp2
                go_ret2
                exact ⟨by rw [HF.out, HG.out]; rfl, by rw [HW.out]; first | exact Ext.drewN _ _ | exact (Ext.drewN _ _).trans (Ext.drew _) | exact (Ext.drewN _ _).trans (Ext.drewN _ _)⟩
            · have HN := Lib.hid (show ∀ j, j + 1 < k + 1 → f j ≤ f (j + 1) from fun j h => by
                by_cases e : j = k - 1
                · subst e; rw [show k - 1 + 1 = k by omega, hu, hv']; omega
                · exact HS.out j (by omega))
              clear hu hv'
              go_wp2
              go_region
              all_goals
                go_wp2
                go_roundw
                case rel => exact ⟨k + 1, q + 1, by omega, by omega, by go_num, HN.out, by rw [HW.out]; rfl⟩
                case measure => simp [intOf]; omega
          · obtain rfl : k = n := by omega
            obtain ⟨hrt, hrvv⟩ := HYes.out (sortedB_yes HS.out)
            have HT := Lib.hid hrt
            have HU := Lib.hid hrvv
            clear hrt hrvv
            go_wp2_with (go_at_call 54; refine (c_spec_l02Hash_q key salt v _ HK2.out.1 HK2.out.2 HV.out).mono ?_; rintro e w' ⟨rfl, rfl⟩)
            go_loopw [10] (fun i wr' => ∃ j : Nat, j ≤ k ∧ i = .int .i64 j ∧ (∀ m, m < j → f m < v) ∧ wr' = wr) (fun i _ => k - (intOf i).toNat)
            case atStart => exact ⟨0, Nat.zero_le _, rfl, fun m h => by omega, rfl⟩
            case round =>
              obtain ⟨j, hj, rfl, hl, rfl⟩ := hrel
              have HL := Lib.hid hl
              clear hl
              by_cases hjn : j < k
              · have hcx : w.cell? ⟨b, off + j, none⟩ = some (.int .i64 (f j)) := HC.out j hjn
                obtain ⟨u, hu⟩ : ∃ u, f j = u := ⟨_, rfl⟩
                rw [hu] at hcx
                have hcw : wr.cell? ⟨b, off + j, none⟩ = some (.int .i64 u) := by rw [HW.out]; exact hcx
                by_cases hge : v ≤ u
                · have HP := Lib.hid (show posN f v k = j from (posN_is f v k).eq ⟨by omega, HL.out, fun _ => by rw [hu]; exact hge⟩)
                  have HM := Lib.hid (mod_lt' hjn)
                  clear hu
                  go_wp2
                  go_ret2
                  exact ⟨by rw [HT.out, HU.out, HP.out, HM.out]; rfl, by rw [HW.out]; exact Ext.drewN _ _⟩
                · have HN := Lib.hid (show ∀ m, m < j + 1 → f m < v from fun m h => by
                    by_cases e : m = j
                    · subst e; rw [hu]; omega
                    · exact HL.out m (by omega))
                  have hge' : u < v := by omega
                  clear hu hge
                  go_wp2
                  go_roundw
                  case rel => exact ⟨j + 1, by omega, by go_num, HN.out, by first | rfl | trivial⟩
                  case measure => simp [intOf]; omega
              · obtain rfl : j = k := by omega
                have HP := Lib.hid (show posN f v j = j from (posN_is f v j).eq ⟨Nat.le_refl _, HL.out, fun h => by omega⟩)
                go_wp2
                go_ret2
                exact ⟨by rw [HT.out, HU.out, HP.out, Nat.mod_self]; rfl, by rw [HW.out]; exact Ext.drewN _ _⟩
end Go.Proofs.Ytdbllnmhlfkhbab
