/- MeetingsOf: the other side: two loops. -/
import Derived.Test.YtdbllnmhlfkhbabMee
import Derived.Test.YtdbllnmhlfkhbabLea
namespace Go.Proofs.Ytdbllnmhlfkhbab
open Go.ChangeShapes Go.WideShapes Go.ChangeAt Go.RowKit Go.Maps Go.WideMaps
set_option linter.unusedVariables false
theorem belAt_eq {zs : List Int} {salt : Int} {m j k : Nat} {x y u v : Int} (hx : zs[k]?.getD 0 = x) (hy : zs[j]?.getD 0 = y) (hu : ((belowN x salt m : Nat) : Int) = u) (hv : ((belowN y salt m : Nat) : Int) = v) : (u = v) ↔ belAt zs salt m j = belAt zs salt m k := by
  unfold belAt
  rw [hx, hy]
  omega
theorem c_spec_l02Below_is (key salt v : Int) (n : Nat) (w : World) (hk : keyB key = true) (hs : keyB salt = true) (hn : n ≤ 4294967296) (hv : ((belowN key salt n : Nat) : Int) = v) : Calls Try.prog 59 #[.int .i64 key, .int .i64 salt, .int .i64 n] w fun e w' => e = .returned (.int .i64 v) ∧ w' = w := by
  subst hv; exact (c_spec_l02Below key salt n w hk hs hn).mono (by rintro e w' ⟨rfl, rfl⟩; exact ⟨rfl, rfl⟩)
set_option maxHeartbeats 2000000 in
theorem c_spec_MeetingsOf (a : Option Addr) (n0 cap : Nat) (zs : List Int) (salt n : Int) (w : World) (hm : n0 ≤ maxLen) (h : Reads w a n0 (ints zs)) :
    Calls Try.prog 28 #[.slice a n0 cap, .int .i64 salt, .int .i64 n] w fun e w' => e = .returned (.tuple #[.int .i64 (meetV zs salt n), .bool (meetB zs salt n)]) ∧ Ext w w' := by
  have H := Lib.hid h
  cases hk : keysB zs
  · have HK := Lib.hid hk
    rw [meetV_no (meetB_1 hk), meetB_1 hk]
    clear hk h
    go_enter Try.func28, Try.ntmps28
    go_wp2_with (go_at_call 47; refine (c_spec_l02Keys_of _ _ _ zs _ HK.out hm H.out).mono ?_; rintro e w' ⟨rfl, rfl⟩)
    go_ret2
    exact ⟨rfl, Ext.refl _⟩
  · cases hs : keyB salt
    · have HK := Lib.hid hk
      have HS := Lib.hid hs
      rw [meetV_no (meetB_2 hs), meetB_2 hs]
      clear hk hs h
      go_enter Try.func28, Try.ntmps28
      go_wp2_with (first | (go_at_call 47; refine (c_spec_l02Keys_of _ _ _ zs _ HK.out hm H.out).mono ?_; rintro e w' ⟨rfl, rfl⟩) | (go_at_call 52; refine (c_spec_l02Key_at salt _ HS.out).mono ?_; rintro e w' ⟨rfl, rfl⟩))
      go_ret2
      exact ⟨rfl, Ext.refl _⟩
    · have HK := Lib.hid hk
      have HS := Lib.hid hs
      cases hn : inB 1 n 4294967296
      · have HN := Lib.hid hn
        rw [meetV_no (meetB_3 hn), meetB_3 hn]
        clear hk hs h hn
        go_enter Try.func28, Try.ntmps28
        go_wp2_with (first | (go_at_call 47; refine (c_spec_l02Keys_of _ _ _ zs _ HK.out hm H.out).mono ?_; rintro e w' ⟨rfl, rfl⟩) | (go_at_call 52; refine (c_spec_l02Key_at salt _ HS.out).mono ?_; rintro e w' ⟨rfl, rfl⟩) | (go_at_call 58; refine (c_l00In_at n 1 4294967296 _ HN.out).mono ?_; rintro e w' ⟨rfl, rfl⟩))
        go_ret2
        exact ⟨rfl, Ext.refl _⟩
      · have HN := Lib.hid hn
        obtain ⟨n1, n2⟩ := inB_of hn
        obtain ⟨m, rfl⟩ := Int.eq_ofNat_of_zero_le (show (0 : Int) ≤ n from by omega)
        have hB := meetB_mk hk hs hn
        rw [meetV_yes hB, hB]
        have hzl := keysB_len hk
        obtain ⟨hzn, hr⟩ := h.int
        have HR := Lib.hid hr
        obtain ⟨f, hf⟩ : ∃ f, belAt zs salt m = f := ⟨_, rfl⟩
        have HF := Lib.hid hf
        have HM := Lib.hid (show m ≤ 4294967296 by omega)
        rw [hf]
        clear hk hs h hn hr hB hf n1 n2
        go_enter Try.func28, Try.ntmps28
        go_wp2_with (first | (go_at_call 47; refine (c_spec_l02Keys_of _ _ _ zs _ HK.out hm H.out).mono ?_; rintro e w' ⟨rfl, rfl⟩) | (go_at_call 52; refine (c_spec_l02Key_at salt _ HS.out).mono ?_; rintro e w' ⟨rfl, rfl⟩) | (go_at_call 58; refine (c_l00In_at (m : Int) 1 4294967296 _ HN.out).mono ?_; rintro e w' ⟨rfl, rfl⟩))
        go_loopw [8, 9, 10] (fun c i kk wr => ∃ k q : Nat, k ≤ n0 ∧ i = .int .i64 k ∧ c = .int .i64 (meets f k : Nat) ∧ wr = w.drewN q) (fun _ i _ _ => n0 - (intOf i).toNat)
        case atStart => exact ⟨0, 0, Nat.zero_le _, rfl, rfl, rfl⟩
        case round =>
          obtain ⟨k, q, hk, rfl, rfl, hw⟩ := hrel
          have HW := Lib.hid hw
          clear hw
          by_cases hlt : k < n0
          · rcases HR.out with h0 | ⟨b, off, rfl, hc⟩
            · omega
            obtain ⟨x, hx⟩ : ∃ x, zs[k]?.getD 0 = x := ⟨_, rfl⟩
            have HX := Lib.hid (show keyB x = true by rw [← hx]; exact keysB_at HK.out (by omega))
            have HXZ := Lib.hid hx
            obtain ⟨u, hu⟩ : ∃ u : Int, ((belowN x salt m : Nat) : Int) = u := ⟨_, rfl⟩
            have HU := Lib.hid hu
            obtain ⟨c0, hc0⟩ : ∃ c0, meets f k = c0 := ⟨_, rfl⟩
            have hck : c0 ≤ k := by rw [← hc0]; exact meets_le f k
            have HC0 := Lib.hid hc0
            have HC := Lib.hid hc
            rw [hc0]
            clear hc hx hu hc0
            go_wp2
            go_loopw [8, 10] (fun c kk w2 => ∃ j q2 : Nat, j ≤ k ∧ kk = .int .i64 j ∧ c = .int .i64 (c0 : Nat) ∧ w2 = w.drewN q2 ∧ sameIn f k j = false) (fun _ kk _ => k - (intOf kk).toNat)
            case atStart => exact ⟨0, q, Nat.zero_le _, rfl, rfl, HW.out, rfl⟩
            case round =>
              obtain ⟨j, q2, hj, rfl, rfl, hw2, hno⟩ := hrel
              have HW2 := Lib.hid hw2
              have HNO := Lib.hid hno
              clear hw2 hno
              by_cases hjk : j < k
              · have hcx : wr.cell? ⟨b, off + k, none⟩ = some (.int .i64 (zs[k]?.getD 0)) := by rw [HW2.out]; exact HC.out k hlt
                have hcy : wr.cell? ⟨b, off + j, none⟩ = some (.int .i64 (zs[j]?.getD 0)) := by rw [HW2.out]; exact HC.out j (by omega)
                obtain ⟨y, hy⟩ : ∃ y, zs[j]?.getD 0 = y := ⟨_, rfl⟩
                have HY := Lib.hid (show keyB y = true by rw [← hy]; exact keysB_at HK.out (by omega))
                obtain ⟨v, hv⟩ : ∃ v : Int, ((belowN y salt m : Nat) : Int) = v := ⟨_, rfl⟩
                have HV := Lib.hid hv
                have HEQ := Lib.hid (belAt_eq (salt := salt) (m := m) HXZ.out hy HU.out hv)
                rw [HXZ.out] at hcx
                rw [hy] at hcy
                clear hy hv
                by_cases huv : u = v
                · have HL := Lib.hid (show meets f (k + 1) = c0 + 1 by rw [meets_yes (sameIn_yes hjk (by rw [← HF.out]; exact HEQ.out.1 huv)), HC0.out])
                  have huv' : (u == v) = true := by simpa using huv
                  go_wp2
                  go_quiet (first | (go_at_call_of 59 (Value.int .i64 x); exact Calls.quiet_of_same (c_spec_l02Below_is x salt u m _ HX.out HS.out HM.out HU.out)) | (go_at_call_of 59 (Value.int .i64 y); exact Calls.quiet_of_same (c_spec_l02Below_is y salt v m _ HY.out HS.out HM.out HV.out)))
                  go_wp2
                  go_roundw
                  case rel => exact ⟨k + 1, _, by omega, by go_num, by rw [HL.out]; go_num, by rw [HW2.out, World.drewN_drewN]⟩
                  case measure => simp [intOf]; omega
                · have HL := Lib.hid (show sameIn f k (j + 1) = false from sameIn_no HNO.out (by rw [← HF.out]; exact fun e => huv (HEQ.out.2 e)))
                  have huv' : (u == v) = false := by simpa using huv
                  go_wp2
                  go_quiet (first | (go_at_call_of 59 (Value.int .i64 x); exact Calls.quiet_of_same (c_spec_l02Below_is x salt u m _ HX.out HS.out HM.out HU.out)) | (go_at_call_of 59 (Value.int .i64 y); exact Calls.quiet_of_same (c_spec_l02Below_is y salt v m _ HY.out HS.out HM.out HV.out)))
                  go_wp2
                  go_roundw
                  case rel => exact ⟨j + 1, _, by omega, by go_num, rfl, by rw [HW2.out, World.drewN_drewN], HL.out⟩
                  case measure => simp [intOf]; omega
              · obtain rfl : j = k := by omega
                have HL := Lib.hid (show meets f (j + 1) = c0 by rw [meets_no HNO.out, HC0.out])
                go_wp2
                go_roundw
                case rel => exact ⟨j + 1, _, by omega, by go_num, by rw [HL.out], HW2.out⟩
                case measure => simp [intOf]; omega
          · obtain rfl : k = n0 := by omega
            go_wp2
            go_ret2
            exact ⟨by rw [hzn]; rfl, by rw [HW.out]; exact Ext.drewN _ _⟩
end Go.Proofs.Ytdbllnmhlfkhbab
