/- ValidLevels: both sides. -/
import Derived.Test.YtiimadklflmpcaaLvk
import Derived.Test.YtiimadklflmpcaaSso
import Derived.Test.YtiimadklflmpcaaFar
import Derived.Test.YtiimadklflmpcaaAll
import Derived.Deep.QuietTactic
namespace Go.Proofs.Ytiimadklflmpcaa
open Go.ChangeShapes Go.WideShapes Go.ChangeAt Go.RowKit
open Go.Proofs.Ytiimadklflmpcaa.Flo
set_option linter.unusedVariables false
def levRow (R : Int) (zss : List (List Nat)) (i : Nat) : Bool := decide (((rowS zss i).length : Int) < R) && finB (rowS zss i)
def levHead (R S : Int) (n : Nat) : Bool := decide (2 ≤ R) && (decide (R ≤ 64) && (decide (R.tmod 2 = 0) && (keyB S && (decide (1 ≤ n) && decide (n ≤ 16)))))
def levB (R S : Int) (zss : List (List Nat)) : Bool := levHead R S zss.length && allTo zss.length (levRow R zss)
theorem levB_head {R S : Int} {zss : List (List Nat)} (h : levHead R S zss.length = false) : levB R S zss = false := by unfold levB; rw [h]; rfl
theorem levB_row {R S : Int} {zss : List (List Nat)} {i : Nat} (hi : i < zss.length) (h : levRow R zss i = false) : levB R S zss = false := by unfold levB; rw [allTo_no hi h]; exact Bool.and_false _
theorem levB_yes {R S : Int} {zss : List (List Nat)} (h : levHead R S zss.length = true) (ha : ∀ i, i < zss.length → levRow R zss i = true) : levB R S zss = true := by unfold levB; rw [h, allTo_yes ha]; rfl
theorem key_in (S : Int) : inB 0 S 4294967295 = keyB S := by unfold inB keyB; exact decide_eq_decide.2 (by omega)
theorem tmod_two {R : Int} (h : 2 ≤ R) : R.tmod 2 = 0 ∨ R.tmod 2 = 1 := by rw [Int.tmod_eq_emod_of_nonneg (by omega)]; omega
set_option maxHeartbeats 4000000 in
theorem c_impl_ValidLevels (R S : Int) (a : Option Addr) (n cap : Nat) (hs : Nat → Hd) (zss : List (List Nat)) (w : World) {r : Bool} (hr : levB R S zss = r) (hl : n + totS zss n ≤ 1048576) (hb : BitsS zss) (h : ReadsS flos w a n hs zss) :
    Calls Try.prog 39 #[.agg #[.int .i64 R, .int .i64 S, .slice a n cap]] w fun e w' => e = .returned (.bool r) ∧ Ext w w' := by
  have hz := h.len
  subst hz
  have BX := Lib.hid (Box.alloc w #[.int .i64 R, .int .i64 S, .slice a zss.length cap] 49)
  have X0 := Lib.hid (Ext.alloc w (.cells #[.int .i64 R, .int .i64 S, .slice a zss.length cap] 49))
  have HB := Lib.hid hr
  have HBT := Lib.hid hb
  have H := Lib.hid (h.on X0.out)
  have HTL := Lib.hid (show ∀ k, k < zss.length → (rowS zss k).length ≤ 1048576 from fun k hk => by have := totS_row zss hk; omega)
  have hnI : (zss.length : Int) ≤ 1048576 := by omega
  clear hr hb h hl
  go_enter Try.func39, Try.ntmps39
  go_upto_region 1 with fail
  generalize w.alloc (.cells #[.int .i64 R, .int .i64 S, .slice a zss.length cap] 49) = w1 at *
  obtain ⟨b0, b1, b2⟩ := BX.out.three
  by_cases q1 : 2 ≤ R
  case neg =>
    have HD := Lib.hid (levB_head (R := R) (S := S) (zss := zss) (by unfold levHead; rw [decide_eq_false q1]; rfl))
    have q1' : R < 2 := by omega
    go_wp2
    go_ret
    exact ⟨retB (by rw [← HB.out, HD.out]), X0.out⟩
  by_cases q2 : R ≤ 64
  case neg =>
    have HD := Lib.hid (levB_head (R := R) (S := S) (zss := zss) (by unfold levHead; rw [decide_eq_true q1, decide_eq_false q2]; rfl))
    have q2' : 64 < R := by omega
    go_wp2
    go_ret
    exact ⟨retB (by rw [← HB.out, HD.out]), X0.out⟩
  rcases tmod_two q1 with q3 | q3
  case inr =>
    have HD := Lib.hid (levB_head (R := R) (S := S) (zss := zss) (by unfold levHead; rw [decide_eq_true q1, decide_eq_true q2, decide_eq_false (by rw [q3]; decide)]; rfl))
    go_wp2
    go_ret
    exact ⟨retB (by rw [← HB.out, HD.out]), X0.out⟩
  cases q4 : keyB S
  case false =>
    have HD := Lib.hid (levB_head (R := R) (S := S) (zss := zss) (by unfold levHead; rw [q4, decide_eq_true q1, decide_eq_true q2, decide_eq_true q3]; rfl))
    have HK := Lib.hid q4
    clear q4
    go_wp2_with (go_at_call 96; refine (c_impl_IsKey_at S _ HK.out).mono ?_; rintro e w' ⟨rfl, rfl⟩)
    go_ret
    exact ⟨retB (by rw [← HB.out, HD.out]), X0.out⟩
  have HK := Lib.hid q4
  by_cases q5 : 1 ≤ zss.length
  case neg =>
    have HD := Lib.hid (levB_head (R := R) (S := S) (zss := zss) (by unfold levHead; rw [q4, decide_eq_true q1, decide_eq_true q2, decide_eq_true q3, decide_eq_false q5]; rfl))
    have q5' : (zss.length : Int) < 1 := by omega
    clear q4
    go_wp2_with (go_at_call 96; refine (c_impl_IsKey_at S _ HK.out).mono ?_; rintro e w' ⟨rfl, rfl⟩)
    go_ret
    exact ⟨retB (by rw [← HB.out, HD.out]), X0.out⟩
  have q5' : ¬ (zss.length : Int) < 1 := by omega
  by_cases q6 : zss.length ≤ 16
  case neg =>
    have HD := Lib.hid (levB_head (R := R) (S := S) (zss := zss) (by unfold levHead; rw [q4, decide_eq_true q1, decide_eq_true q2, decide_eq_true q3, decide_eq_true q5, decide_eq_false q6]; rfl))
    have q6' : 16 < (zss.length : Int) := by omega
    clear q4
    go_wp2_with (go_at_call 96; refine (c_impl_IsKey_at S _ HK.out).mono ?_; rintro e w' ⟨rfl, rfl⟩)
    go_ret
    exact ⟨retB (by rw [← HB.out, HD.out]), X0.out⟩
  have HHD := Lib.hid (show levHead R S zss.length = true by unfold levHead; rw [q4, decide_eq_true q1, decide_eq_true q2, decide_eq_true q3, decide_eq_true q5, decide_eq_true q6]; rfl)
  have q6' : (zss.length : Int) ≤ 16 := by omega
  have HC := Lib.hid H.out.cells
  clear q4
  go_wp2_with (go_at_call 96; refine (c_impl_IsKey_at S _ HK.out).mono ?_; rintro e w' ⟨rfl, rfl⟩)
  go_loopw [38] (fun i wr => ∃ k : Nat, k ≤ zss.length ∧ i = .int .i64 k ∧ Ext w1 wr ∧ ∀ j, j < k → levRow R zss j = true) (fun i _ => zss.length - (intOf i).toNat)
  case atStart => exact ⟨0, Nat.zero_le _, rfl, Ext.refl _, fun j hj => absurd hj (Nat.not_lt_zero _)⟩
  case round =>
    obtain ⟨k, hk, rfl, hx, hall⟩ := hrel
    have HX := Lib.hid hx
    have HA := Lib.hid hall
    clear hx hall
    by_cases hlt : k < zss.length
    · rcases HC.out with h0 | ⟨b, off, rfl, hc⟩
      · omega
      have cz := HX.out.some (hc k hlt)
      obtain ⟨d0, d1, d2⟩ := (BX.out.on HX.out).three
      obtain ⟨d, hd⟩ : ∃ d, (rowS zss k).length = d := ⟨_, rfl⟩
      have HDD := Lib.hid hd
      rw [hd] at cz
      have hdm : (d : Int) ≤ 1048576 := by have := HTL.out k hlt; omega
      clear hc hd
      by_cases q7 : (d : Int) < R
      case neg =>
        have q7' : R ≤ (d : Int) := by omega
        have HLR := Lib.hid (levB_row (R := R) (S := S) hlt (by unfold levRow; rw [HDD.out, decide_eq_false q7]; rfl))
        go_wp2
        go_ret
        exact ⟨retB (by rw [← HB.out]; exact HLR.out.symm), X0.out.trans HX.out⟩
      have q7' : ¬ R ≤ (d : Int) := by omega
      cases hin : finB (rowS zss k)
      · have HI := Lib.hid hin
        have HLR := Lib.hid (show levRow R zss k = false by unfold levRow; rw [HDD.out, decide_eq_true q7, hin]; rfl)
        clear hin
        go_wp2_with (go_at_call 97; refine (c_impl_areFinite _ _ _ (rowS zss k) _ HI.out (by unfold maxLen; omega) (HBT.out k hlt) (by have h1 := (H.out.r k hlt).on HX.out; rw [HDD.out] at h1; exact h1)).mono ?_; rintro e w' ⟨rfl, q', rfl⟩)
        go_ret
        exact ⟨retB (by rw [← HB.out]; exact (levB_row hlt HLR.out).symm), (X0.out.trans HX.out).trans (Ext.drewN _ _)⟩
      · have HI := Lib.hid hin
        have HLR := Lib.hid (show levRow R zss k = true by unfold levRow; rw [HDD.out, decide_eq_true q7, hin]; rfl)
        clear hin
        go_wp2_with (go_at_call 97; refine (c_impl_areFinite _ _ _ (rowS zss k) _ HI.out (by unfold maxLen; omega) (HBT.out k hlt) (by have h1 := (H.out.r k hlt).on HX.out; rw [HDD.out] at h1; exact h1)).mono ?_; rintro e w' ⟨rfl, q', rfl⟩)
        go_roundw
        case rel => exact ⟨k + 1, by omega, by go_num, HX.out.trans (Ext.drewN _ _), fun j hj => by
          by_cases e : j = k
          · subst e; exact HLR.out
          · exact HA.out j (by omega)⟩
        case measure => simp [intOf]; omega
    · have hkn : k = zss.length := by omega
      subst hkn
      have hlt' : ¬ (zss.length : Int) < (zss.length : Int) := by omega
      go_wp2
      go_ret
      exact ⟨retB (by rw [← HB.out]; exact (levB_yes HHD.out HA.out).symm), X0.out.trans HX.out⟩
set_option maxHeartbeats 4000000 in
theorem c_spec_l05Levels (g : Nat) (R S : Int) (a : Option Addr) (n cap : Nat) (hs : Nat → Hd) (zss : List (List Nat)) (w : World) {r : Bool} (hr : levB R S zss = r) (hl : n + totS zss n ≤ 1048576) (h : ReadsS flos w a n hs zss) (hx : Box w g 49 #[.int .i64 R, .int .i64 S, .slice a n cap]) :
    Calls Try.prog 95 #[.pointer (some ⟨g, 0, none⟩)] w fun e w' => e = .returned (.bool r) ∧ Ext w w' := by
  have hz := h.len
  subst hz
  have BX := Lib.hid hx
  have X0 := Lib.hid (Ext.refl w)
  have HB := Lib.hid hr
  have H := Lib.hid h
  have HTL := Lib.hid (show ∀ k, k < zss.length → (rowS zss k).length ≤ 1048576 from fun k hk => by have := totS_row zss hk; omega)
  have hnI : (zss.length : Int) ≤ 1048576 := by omega
  clear hr hx h hl
  go_enter Try.func95, Try.ntmps95
  obtain ⟨b0, b1, b2⟩ := BX.out.three
  by_cases q1 : 2 ≤ R
  case neg =>
    have HD := Lib.hid (levB_head (R := R) (S := S) (zss := zss) (by unfold levHead; rw [decide_eq_false q1]; rfl))
    have HQ := Lib.hid (inB_no (lo := 2) (k := R) (hi := 64) (by omega))
    go_wp2_with (go_at_call_of 71 (Value.int .i64 R); refine (c_l00In_b R 2 64 _ HQ.out).mono ?_; rintro e w' ⟨rfl, hw'⟩; replace hw' := hw'.symm; subst hw')
    go_ret
    exact ⟨retB (by rw [← HB.out, HD.out]), X0.out⟩
  by_cases q2 : R ≤ 64
  case neg =>
    have HD := Lib.hid (levB_head (R := R) (S := S) (zss := zss) (by unfold levHead; rw [decide_eq_true q1, decide_eq_false q2]; rfl))
    have HQ := Lib.hid (inB_no (lo := 2) (k := R) (hi := 64) (by omega))
    go_wp2_with (go_at_call_of 71 (Value.int .i64 R); refine (c_l00In_b R 2 64 _ HQ.out).mono ?_; rintro e w' ⟨rfl, hw'⟩; replace hw' := hw'.symm; subst hw')
    go_ret
    exact ⟨retB (by rw [← HB.out, HD.out]), X0.out⟩
  have HQ := Lib.hid (inB_yes q1 q2)
  rcases tmod_two q1 with q3 | q3
  case inr =>
    have HD := Lib.hid (levB_head (R := R) (S := S) (zss := zss) (by unfold levHead; rw [decide_eq_true q1, decide_eq_true q2, decide_eq_false (by rw [q3]; decide)]; rfl))
    go_wp2_with (go_at_call_of 71 (Value.int .i64 R); refine (c_l00In_b R 2 64 _ HQ.out).mono ?_; rintro e w' ⟨rfl, hw'⟩; replace hw' := hw'.symm; subst hw')
    go_ret
    exact ⟨retB (by rw [← HB.out, HD.out]), X0.out⟩
  cases q4 : keyB S
  case false =>
    have HD := Lib.hid (levB_head (R := R) (S := S) (zss := zss) (by unfold levHead; rw [q4, decide_eq_true q1, decide_eq_true q2, decide_eq_true q3]; rfl))
    have HK := Lib.hid ((key_in S).trans q4)
    clear q4
    go_wp2_with (first | (go_at_call_of 71 (Value.int .i64 R); refine (c_l00In_b R 2 64 _ HQ.out).mono ?_; rintro e w' ⟨rfl, hw'⟩; replace hw' := hw'.symm; subst hw') | (go_at_call_of 71 (Value.int .i64 S); refine (c_l00In_b S 0 4294967295 _ HK.out).mono ?_; rintro e w' ⟨rfl, hw'⟩; replace hw' := hw'.symm; subst hw'))
    go_ret
    exact ⟨retB (by rw [← HB.out, HD.out]), X0.out⟩
  have HK := Lib.hid ((key_in S).trans q4)
  by_cases q5 : 1 ≤ zss.length
  case neg =>
    have HD := Lib.hid (levB_head (R := R) (S := S) (zss := zss) (by unfold levHead; rw [q4, decide_eq_true q1, decide_eq_true q2, decide_eq_true q3, decide_eq_false q5]; rfl))
    have q5' : (zss.length : Int) < 1 := by omega
    clear q4
    go_wp2_with (first | (go_at_call_of 71 (Value.int .i64 R); refine (c_l00In_b R 2 64 _ HQ.out).mono ?_; rintro e w' ⟨rfl, hw'⟩; replace hw' := hw'.symm; subst hw') | (go_at_call_of 71 (Value.int .i64 S); refine (c_l00In_b S 0 4294967295 _ HK.out).mono ?_; rintro e w' ⟨rfl, hw'⟩; replace hw' := hw'.symm; subst hw'))
    go_ret
    exact ⟨retB (by rw [← HB.out, HD.out]), X0.out⟩
  have q5' : ¬ (zss.length : Int) < 1 := by omega
  by_cases q6 : zss.length ≤ 16
  case neg =>
    have HD := Lib.hid (levB_head (R := R) (S := S) (zss := zss) (by unfold levHead; rw [q4, decide_eq_true q1, decide_eq_true q2, decide_eq_true q3, decide_eq_true q5, decide_eq_false q6]; rfl))
    have q6' : 16 < (zss.length : Int) := by omega
    clear q4
    go_wp2_with (first | (go_at_call_of 71 (Value.int .i64 R); refine (c_l00In_b R 2 64 _ HQ.out).mono ?_; rintro e w' ⟨rfl, hw'⟩; replace hw' := hw'.symm; subst hw') | (go_at_call_of 71 (Value.int .i64 S); refine (c_l00In_b S 0 4294967295 _ HK.out).mono ?_; rintro e w' ⟨rfl, hw'⟩; replace hw' := hw'.symm; subst hw'))
    go_ret
    exact ⟨retB (by rw [← HB.out, HD.out]), X0.out⟩
  have HHD := Lib.hid (show levHead R S zss.length = true by unfold levHead; rw [q4, decide_eq_true q1, decide_eq_true q2, decide_eq_true q3, decide_eq_true q5, decide_eq_true q6]; rfl)
  have q6' : (zss.length : Int) ≤ 16 := by omega
  have HC := Lib.hid H.out.cells
  clear q4
  go_wp2_with (first | (go_at_call_of 71 (Value.int .i64 R); refine (c_l00In_b R 2 64 _ HQ.out).mono ?_; rintro e w' ⟨rfl, hw'⟩; replace hw' := hw'.symm; subst hw') | (go_at_call_of 71 (Value.int .i64 S); refine (c_l00In_b S 0 4294967295 _ HK.out).mono ?_; rintro e w' ⟨rfl, hw'⟩; replace hw' := hw'.symm; subst hw'))
  go_loopw [47] (fun i wr => ∃ k : Nat, k ≤ zss.length ∧ i = .int .i64 k ∧ Ext w wr ∧ ∀ j, j < k → levRow R zss j = true) (fun i _ => zss.length - (intOf i).toNat)
  case atStart => exact ⟨0, Nat.zero_le _, rfl, Ext.refl _, fun j hj => absurd hj (Nat.not_lt_zero _)⟩
  case round =>
    obtain ⟨k, hk, rfl, hx, hall⟩ := hrel
    have HX := Lib.hid hx
    have HA := Lib.hid hall
    clear hx hall
    by_cases hlt : k < zss.length
    · rcases HC.out with h0 | ⟨b, off, rfl, hc⟩
      · omega
      have cz := HX.out.some (hc k hlt)
      obtain ⟨d0, d1, d2⟩ := (BX.out.on HX.out).three
      obtain ⟨d, hd⟩ : ∃ d, (rowS zss k).length = d := ⟨_, rfl⟩
      have HDD := Lib.hid hd
      rw [hd] at cz
      have hdm : (d : Int) ≤ 1048576 := by have := HTL.out k hlt; omega
      clear hc hd
      by_cases q7 : (d : Int) < R
      case neg =>
        have q7' : R ≤ (d : Int) := by omega
        have HLR := Lib.hid (levB_row (R := R) (S := S) hlt (by unfold levRow; rw [HDD.out, decide_eq_false q7]; rfl))
        go_wp2
        go_quiet (fail)
        go_wp2
        go_ret
        exact ⟨retB (by rw [← HB.out]; exact HLR.out.symm), HX.out.trans (Ext.drewN _ _)⟩
      have q7' : ¬ R ≤ (d : Int) := by omega
      have HRK := Lib.hid (show ∀ q, Reads (wr.drewN q) (hs k).a d (flos (rowS zss k)) from fun q => by have h1 := (H.out.r k hlt).on (HX.out.trans (Ext.drewN wr q)); rw [HDD.out] at h1; exact h1)
      cases hin : finB (rowS zss k)
      · have HI := Lib.hid hin
        have HLR := Lib.hid (show levRow R zss k = false by unfold levRow; rw [HDD.out, decide_eq_true q7, hin]; rfl)
        clear hin
        go_wp2
        go_quiet ((go_at_call 133; exact Calls.quiet_of (c_spec_l02Finite _ _ _ (rowS zss k) _ HI.out (by unfold maxLen; omega) (HRK.out _))))
        go_wp2
        go_ret
        exact ⟨retB (by rw [← HB.out]; exact (levB_row hlt HLR.out).symm), (X0.out.trans HX.out).trans (Ext.drewN _ _)⟩
      · have HI := Lib.hid hin
        have HLR := Lib.hid (show levRow R zss k = true by unfold levRow; rw [HDD.out, decide_eq_true q7, hin]; rfl)
        clear hin
        go_wp2
        go_quiet ((go_at_call 133; exact Calls.quiet_of (c_spec_l02Finite _ _ _ (rowS zss k) _ HI.out (by unfold maxLen; omega) (HRK.out _))))
        go_wp2
        go_roundw
        case rel => exact ⟨k + 1, by omega, by go_num, HX.out.trans (Ext.drewN _ _), fun j hj => by
          by_cases e : j = k
          · subst e; exact HLR.out
          · exact HA.out j (by omega)⟩
        case measure => simp [intOf]; omega
    · have hkn : k = zss.length := by omega
      subst hkn
      have hlt' : ¬ (zss.length : Int) < (zss.length : Int) := by omega
      go_wp2
      go_ret
      exact ⟨retB (by rw [← HB.out]; exact (levB_yes HHD.out HA.out).symm), X0.out.trans HX.out⟩
theorem c_spec_ValidLevels (R S : Int) (a : Option Addr) (n cap : Nat) (hs : Nat → Hd) (zss : List (List Nat)) (w : World) {r : Bool} (hr : levB R S zss = r) (hl : n + totS zss n ≤ 1048576) (hb : BitsS zss) (h : ReadsS flos w a n hs zss) :
    Calls Try.prog 37 #[.agg #[.int .i64 R, .int .i64 S, .slice a n cap]] w fun e w' => e = .returned (.bool r) ∧ Ext w w' := by
  have BX := Lib.hid (Box.alloc w #[.int .i64 R, .int .i64 S, .slice a n cap] 49)
  have X0 := Lib.hid (Ext.alloc w (.cells #[.int .i64 R, .int .i64 S, .slice a n cap] 49))
  have H := Lib.hid (h.on X0.out)
  have HB := Lib.hid hr
  clear hr hb h
  go_enter Try.func37, Try.ntmps37
  go_wp2_with fail
  refine (c_spec_l05Levels _ R S a n cap hs zss _ HB.out hl H.out BX.out).mono ?_; rintro e w' ⟨rfl, x'⟩
  have X := Lib.hid (X0.out.trans x')
  clear x'
  go_wp2
  go_ret
  exact ⟨rfl, X.out⟩
end Go.Proofs.Ytiimadklflmpcaa
