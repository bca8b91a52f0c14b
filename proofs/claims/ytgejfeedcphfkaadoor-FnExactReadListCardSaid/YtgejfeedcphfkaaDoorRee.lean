/- ReadDecimal: the other side. -/
import Derived.Test.YtgejfeedcphfkaaDoorRed
namespace Go.Proofs.YtgejfeedcphfkaaDoor
open Go.ChangeShapes Go.WideShapes Go.ChangeAt Go.RowKit
set_option linter.unusedVariables false
theorem readB_size {s : ByteArray} (h : ¬ (1 ≤ s.size ∧ s.size ≤ 17)) : readB s = false := by
  unfold readB; rw [decide_eq_false h]; rfl
theorem readB_val {s : ByteArray} {V : Int} (hV : specV s.data.toList = V) (h : valB V = false) : readB s = false := by
  unfold readB; rw [hV, h]; simp
theorem readB_text {s t : ByteArray} {V : Int} (hV : specV s.data.toList = V) (ht : decT V = t) (h : ¬ t = s) : readB s = false := by
  unfold readB; rw [hV, ht, decide_eq_false h]; simp
theorem readB_ok {s : ByteArray} {V : Int} (hs : 1 ≤ s.size ∧ s.size ≤ 17) (hV : specV s.data.toList = V) (h : valB V = true) (ht : decT V = s) : readB s = true ∧ readV s = V := by
  have e : readB s = true := by unfold readB; rw [hV, h, ht, decide_eq_true hs, decide_eq_true rfl]; rfl
  exact ⟨e, by unfold readV; rw [e, if_pos rfl, hV]⟩
theorem specN_step (s : ByteArray) (k : Nat) (hk : k < s.size) : specN (s.data.toList.take (k + 1)) = digN (specN (s.data.toList.take k)) s[k] := by
  have hk' : k < s.data.toList.length := by simpa using hk
  unfold specN
  rw [List.take_succ_eq_append_getElem hk', List.foldl_append]
  rfl
theorem specN_lt (s : ByteArray) : ∀ k, k ≤ s.size → specN (s.data.toList.take k) < 10 ^ k
  | 0, _ => by simp [specN]
  | k + 1, hk => by
    rw [specN_step s k (by omega), Nat.pow_succ]
    have ih := specN_lt s k (by omega)
    unfold digN
    split <;> omega
theorem pow_17 {k : Nat} (h : k ≤ 17) : 10 ^ k ≤ 100000000000000000 := by
  have := Nat.pow_le_pow_right (show 0 < 10 by omega) h
  exact Nat.le_trans this (by decide)
theorem head_at (s : ByteArray) (h : 0 < s.size) : s.data.toList.head? = some s[0] := by
  have h' : 0 < s.data.toList.length := by simpa using h
  rw [List.head?_eq_getElem?, List.getElem?_eq_getElem h']
  rfl
theorem specV_neg (s : ByteArray) (h : 0 < s.size) (h45 : s[0].toNat = 45) : specV s.data.toList = -((specN s.data.toList : Nat) : Int) := by
  unfold specV
  rw [head_at s h, if_pos]
  congr 1
  exact UInt8.toNat_inj.1 h45
theorem specV_pos (s : ByteArray) (h : 0 < s.size) (h45 : ¬ s[0].toNat = 45) : specV s.data.toList = ((specN s.data.toList : Nat) : Int) := by
  unfold specV
  rw [head_at s h, if_neg]
  intro e
  injection e with e
  rw [e] at h45
  exact h45 rfl
theorem c_dec_t (v : Int) (t : ByteArray) (w : World) (h : valB v = true) (ht : decT v = t) :
    Calls Tryd.prog 76 #[.int .i64 v] w fun e w' => e = .returned (.string t) ∧ Ext w w' := by
  subst ht
  have := valB_of h
  exact c_dec v w (by omega) (by omega)
set_option maxHeartbeats 2000000 in
theorem c_spec_l01Value (s : ByteArray) (w : World) (hs : s.size ≤ 1048576) :
    Calls Tryd.prog 98 #[.string s] w fun e w' => e = .returned (.tuple #[.int .i64 (readV s), .bool (readB s)]) ∧ Ext w w' := by
  by_cases h1 : s.size < 1
  · have hB := readB_size (s := s) (by omega)
    rw [readV_no hB, hB]
    have h1' : (s.size : Int) < 1 := by omega
    clear h1 hB
    go_enter Tryd.func98, Tryd.ntmps98
    go_wp2
    go_ret2
    exact ⟨rfl, Ext.refl _⟩
  by_cases h2 : 17 < s.size
  · have hB := readB_size (s := s) (by omega)
    rw [readV_no hB, hB]
    have h1' : ¬ (s.size : Int) < 1 := by omega
    have h2' : 17 < (s.size : Int) := by omega
    clear h1 h2 hB
    go_enter Tryd.func98, Tryd.ntmps98
    go_wp2
    go_ret2
    exact ⟨rfl, Ext.refl _⟩
  have hsz : 1 ≤ s.size ∧ s.size ≤ 17 := by omega
  have h1' : ¬ (s.size : Int) < 1 := by omega
  have h2' : ¬ 17 < (s.size : Int) := by omega
  have HZ := Lib.hid hsz
  clear h1 h2
  go_enter Tryd.func98, Tryd.ntmps98
  go_wp2
  go_loop [4, 5] (fun c i => ∃ k : Nat, k ≤ s.size ∧ i = .int .i64 k ∧ c = .int .i64 (specN (s.data.toList.take k) : Nat)) (fun _ i => s.size - (intOf i).toNat)
  case atStart => exact ⟨0, Nat.zero_le _, rfl, rfl⟩
  case round =>
    obtain ⟨k, hk, rfl, rfl⟩ := hrel
    have hpw := pow_17 (show k ≤ 17 by omega)
    have hlt0 := specN_lt s k hk
    by_cases hlt : k < s.size
    · have hc : (s[k].toNat : Int) < 256 := by have := s[k].toNat_lt; omega
      have HS := Lib.hid (specN_step s k hlt)
      obtain ⟨M, hM⟩ : ∃ M, specN (s.data.toList.take k) = M := ⟨_, rfl⟩
      rw [hM] at hlt0 HS ⊢
      have hMb : (M : Int) ≤ 100000000000000000 := by omega
      clear hpw hlt0 hM hsz
      by_cases hd : 48 ≤ s[k].toNat ∧ s[k].toNat ≤ 57
      · have HD := Lib.hid (show specN (s.data.toList.take (k + 1)) = 10 * M + (s[k].toNat - 48) by rw [HS.out]; unfold digN; rw [if_pos hd])
        have d1 : (48 : Int) ≤ (s[k].toNat : Int) := by omega
        have d2 : (s[k].toNat : Int) ≤ 57 := by omega
        clear hd HS
        go_wp2
        go_round
        case rel => exact ⟨k + 1, by omega, by go_num, by rw [HD.out]; go_num⟩
        case measure => simp [intOf]; omega
      · have HD := Lib.hid (show specN (s.data.toList.take (k + 1)) = M by rw [HS.out]; unfold digN; rw [if_neg hd])
        by_cases d0 : (s[k].toNat : Int) < 48
        · have d1 : ¬ (48 : Int) ≤ (s[k].toNat : Int) := by omega
          have d3 : decide ((48 : Int) ≤ (s[k].toNat : Int)) = false := decide_eq_false d1
          clear hd HS
          go_wp2
          go_round
          case rel => exact ⟨k + 1, by omega, by go_num, by rw [HD.out]⟩
          case measure => simp [intOf]; omega
        · have d1 : (48 : Int) ≤ (s[k].toNat : Int) := by omega
          have d2 : 57 < (s[k].toNat : Int) := by omega
          have d3 : ¬ (s[k].toNat : Int) ≤ 57 := by omega
          have d4 : decide ((s[k].toNat : Int) ≤ 57) = false := decide_eq_false d3
          clear hd HS d0
          go_wp2
          go_round
          case rel => exact ⟨k + 1, by omega, by go_num, by rw [HD.out]⟩
          case measure => simp [intOf]; omega
    · obtain rfl : k = s.size := by omega
      have hall : s.data.toList.take s.size = s.data.toList := List.take_of_length_le (by simp)
      rw [hall] at hlt0 ⊢
      have hpos : 0 < s.size := by omega
      have hc0 : (s[0].toNat : Int) < 256 := by have := s[0].toNat_lt; omega
      obtain ⟨M, hM⟩ : ∃ M, specN s.data.toList = M := ⟨_, rfl⟩
      have HM := Lib.hid hM
      rw [hM] at hlt0 ⊢
      have hMb : (M : Int) ≤ 100000000000000000 := by omega
      clear hpw hlt0 hM hsz hall
      by_cases h45 : s[0].toNat = 45
      · have g45 : (s[0].toNat : Int) = 45 := by omega
        have b45 : ((s[0].toNat : Int) == 45) = true := by rw [g45]; rfl
        have HV := Lib.hid (show specV s.data.toList = -(M : Int) by rw [specV_neg s hpos (by omega), HM.out])
        cases hb : valB (-(M : Int))
        · have HB := Lib.hid (readB_val HV.out hb)
          have HR := Lib.hid (readV_no HB.out)
          have HX := Lib.hid hb
          clear hb
          go_wp2_with (go_at_call 75; refine (c_l00In_is (-(M : Int)) (-1000000000000000) 1000000000000000 _ HX.out).mono ?_; rintro e w' ⟨rfl, rfl⟩)
          go_ret2
          exact ⟨by rw [HR.out, HB.out]; rfl, Ext.refl _⟩
        · have HX := Lib.hid hb
          obtain ⟨t, ht⟩ : ∃ t, decT (-(M : Int)) = t := ⟨_, rfl⟩
          have HT := Lib.hid ht
          by_cases he : t = s
          · subst he
            have h9 := readB_ok HZ.out HV.out hb ht
            have HB := Lib.hid h9.1
            have HR := Lib.hid h9.2
            clear hb ht h9
            go_wp2_with (go_at_call 75; refine (c_l00In_is (-(M : Int)) (-1000000000000000) 1000000000000000 _ HX.out).mono ?_; rintro e w' ⟨rfl, rfl⟩)
            refine (c_dec_t (-(M : Int)) t _ HX.out HT.out).mono ?_
            rintro e w2 ⟨rfl, x2⟩
            have X2 := Lib.hid x2
            clear x2
            go_wp2
            go_ret2
            exact ⟨by rw [HR.out, HB.out]; rfl, X2.out⟩
          · have HB := Lib.hid (readB_text HV.out ht he)
            have HR := Lib.hid (readV_no HB.out)
            have he1 : (t.toList == s.toList) = false := ne_text he
            clear hb ht
            go_wp2_with (go_at_call 75; refine (c_l00In_is (-(M : Int)) (-1000000000000000) 1000000000000000 _ HX.out).mono ?_; rintro e w' ⟨rfl, rfl⟩)
            refine (c_dec_t (-(M : Int)) t _ HX.out HT.out).mono ?_
            rintro e w2 ⟨rfl, x2⟩
            have X2 := Lib.hid x2
            clear x2
            go_wp2
            go_ret2
            exact ⟨by rw [HR.out, HB.out]; rfl, X2.out⟩
      · have g45 : ¬ (s[0].toNat : Int) = 45 := by omega
        have b45 : ((s[0].toNat : Int) == 45) = false := by simpa using g45
        have HV := Lib.hid (show specV s.data.toList = (M : Int) by rw [specV_pos s hpos (by omega), HM.out])
        cases hb : valB ((M : Int))
        · have HB := Lib.hid (readB_val HV.out hb)
          have HR := Lib.hid (readV_no HB.out)
          have HX := Lib.hid hb
          clear hb
          go_wp2_with (go_at_call 75; refine (c_l00In_is ((M : Int)) (-1000000000000000) 1000000000000000 _ HX.out).mono ?_; rintro e w' ⟨rfl, rfl⟩)
          go_ret2
          exact ⟨by rw [HR.out, HB.out]; rfl, Ext.refl _⟩
        · have HX := Lib.hid hb
          obtain ⟨t, ht⟩ : ∃ t, decT ((M : Int)) = t := ⟨_, rfl⟩
          have HT := Lib.hid ht
          by_cases he : t = s
          · subst he
            have h9 := readB_ok HZ.out HV.out hb ht
            have HB := Lib.hid h9.1
            have HR := Lib.hid h9.2
            clear hb ht h9
            go_wp2_with (go_at_call 75; refine (c_l00In_is ((M : Int)) (-1000000000000000) 1000000000000000 _ HX.out).mono ?_; rintro e w' ⟨rfl, rfl⟩)
            refine (c_dec_t ((M : Int)) t _ HX.out HT.out).mono ?_
            rintro e w2 ⟨rfl, x2⟩
            have X2 := Lib.hid x2
            clear x2
            go_wp2
            go_ret2
            exact ⟨by rw [HR.out, HB.out]; rfl, X2.out⟩
          · have HB := Lib.hid (readB_text HV.out ht he)
            have HR := Lib.hid (readV_no HB.out)
            have he1 : (t.toList == s.toList) = false := ne_text he
            clear hb ht
            go_wp2_with (go_at_call 75; refine (c_l00In_is ((M : Int)) (-1000000000000000) 1000000000000000 _ HX.out).mono ?_; rintro e w' ⟨rfl, rfl⟩)
            refine (c_dec_t ((M : Int)) t _ HX.out HT.out).mono ?_
            rintro e w2 ⟨rfl, x2⟩
            have X2 := Lib.hid x2
            clear x2
            go_wp2
            go_ret2
            exact ⟨by rw [HR.out, HB.out]; rfl, X2.out⟩
end Go.Proofs.YtgejfeedcphfkaaDoor
