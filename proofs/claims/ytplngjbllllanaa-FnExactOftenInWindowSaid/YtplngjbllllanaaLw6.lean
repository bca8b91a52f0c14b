/- Least and greatest last ones: what both sides share. -/
import Derived.Test.YtplngjbllllanaaLop
import Derived.Test.YtplngjbllllanaaRow
import Derived.Test.YtplngjbllllanaaKin
import Derived.Test.YtplngjbllllanaaCnt
import Derived.Deep.LoopGhost
namespace Go.Proofs.Ytplngjbllllanaa
open Go.ChangeShapes Go.WideShapes Go.ChangeAt Go.RowKit
set_option linter.unusedVariables false
theorem retB6 {a b : Bool} (h : a = b) : Ending.returned (.bool a) = Ending.returned (.bool b) := by rw [h]
theorem manyB_bad6 {m : Int} {zs : List Int} {i : Nat} (hi : i < zs.length) (h : inB (-m) (getI zs i) m = false) : manyB m zs = false := many_no hi rfl h
theorem c_l00In_q (k lo hi : Int) (w : World) {b : Bool} (h : inB lo k hi = b) : Calls Try.prog 126 #[.int .i64 k, .int .i64 lo, .int .i64 hi] w fun e w' => e = .returned (.bool b) ∧ w = w' :=
  (c_l00In_b k lo hi w h).mono (by rintro e w' ⟨rfl, rfl⟩; exact ⟨rfl, rfl⟩)
set_option maxHeartbeats 1000000 in
theorem c_spec_l06List (a : Option Addr) (n cap : Nat) (zs : List Int) (long : Int) (w : World) {r : Bool} (hr : readB zs long = r) (hm : n ≤ 1048576) (h : Reads w a n (ints zs)) :
    Calls Try.prog 87 #[.slice a n cap, .int .i64 long] w fun e w' => e = .returned (.bool r) ∧ w = w' := by
  obtain ⟨hz, hrd⟩ := h.int
  have HR := Lib.hid hrd
  have HZ := Lib.hid hz
  have HV := Lib.hid hr
  have hnI : (n : Int) ≤ 1048576 := by omega
  clear h hz hrd hr
  go_enter Try.func87, Try.ntmps87
  go_wp2
  go_loopw [5] (fun i wr => ∃ k : Nat, k ≤ n ∧ i = .int .i64 k ∧ (∀ j, j < k → inB (-1000000) (getI zs j) 1000000 = true) ∧ w = wr) (fun i _ => n - (intOf i).toNat)
  case atStart => exact ⟨0, Nat.zero_le _, rfl, fun j hj => absurd hj (Nat.not_lt_zero _), rfl⟩
  case round =>
    obtain ⟨k, hk, rfl, hall, rfl⟩ := hrel
    have HA := Lib.hid hall
    by_cases hlt : k < n
    · have hltI : (k : Int) < (n : Int) := by omega
      rcases HR.out with h0 | ⟨b, off, rfl, hc⟩
      · omega
      obtain ⟨x, hx⟩ : ∃ x, zs[k]?.getD 0 = x := ⟨_, rfl⟩
      have hcell := hc k hlt
      rw [hx] at hcell
      have HX := Lib.hid (show getI zs k = x from hx)
      clear hc hall hx
      cases hin : inB (-1000000) x 1000000
      · have HIN := Lib.hid hin
        have HF := Lib.hid (show r = false by
          rw [← HV.out]; unfold readB
          rw [manyB_bad6 (m := 1000000) (i := k) (by rw [HZ.out]; exact hlt) (by rw [HX.out]; exact hin)]; simp)
        clear hin
        go_wp2_with (go_at_call 126; refine (c_l00In_q _ _ _ _ HIN.out).mono ?_; rintro e w' ⟨rfl, rfl⟩)
        go_ret
        exact ⟨retB6 HF.out.symm, rfl⟩
      · have HIN := Lib.hid hin
        clear hin
        go_wp2_with (go_at_call 126; refine (c_l00In_q _ _ _ _ HIN.out).mono ?_; rintro e w' ⟨rfl, rfl⟩)
        go_roundw
        case rel => exact ⟨k + 1, by omega, by go_num, fun j hj => by
          by_cases e : j = k
          · rw [e, HX.out]; exact HIN.out
          · exact HA.out j (by omega), by first | rfl | trivial⟩
        case measure => simp [intOf]; omega
    · have hkn : k = n := by omega
      have hltI : ¬ (k : Int) < (n : Int) := by omega
      have HM := Lib.hid (show manyB 1000000 zs = true from many_mk fun i hi => HA.out i (by rw [hkn, ← HZ.out]; exact hi))
      clear hall
      obtain rfl := hkn
      by_cases h1 : k < 1
      · have hI1 : (k : Int) < 1 := by omega
        have HF := Lib.hid (show r = false by rw [← HV.out]; unfold readB; rw [HZ.out, decide_eq_false (by omega)]; rfl)
        clear h1
        go_wp2
        go_ret
        exact ⟨retB6 (by first | (rw [HF.out]; done) | (rw [HF.out]; rfl) | (rw [HF.out]; simp; done) | (rw [HF.out]; simp; omega)), rfl⟩
      have hI1 : (1 : Int) ≤ (k : Int) := by omega
      by_cases h2 : 128 < k
      · have hI2 : (128 : Int) < (k : Int) := by omega
        have HF := Lib.hid (show r = false by rw [← HV.out]; unfold readB; rw [HZ.out, decide_eq_false (by omega)]; rfl)
        clear h1 h2
        go_wp2
        go_ret
        exact ⟨retB6 (by first | (rw [HF.out]; done) | (rw [HF.out]; rfl) | (rw [HF.out]; simp; done) | (rw [HF.out]; simp; omega)), rfl⟩
      · have hI2 : (k : Int) ≤ 128 := by omega
        have HF := Lib.hid (show inB 1 long 128 = r by rw [← HV.out]; unfold readB; rw [HZ.out, decide_eq_true (by omega), HM.out]; rfl)
        clear h1 h2
        go_wp2_with (go_at_call 126; refine (c_l00In_q _ _ _ _ HF.out).mono ?_; rintro e w' ⟨rfl, rfl⟩)
        go_ret
        exact ⟨rfl, rfl⟩
theorem c_l00Min_l (x y z : Int) (w : World) (h : min x y = z) : Calls Try.prog 115 #[.int .i64 x, .int .i64 y] w fun e w' => e = .returned (.int .i64 z) ∧ w = w' := by
  by_cases hl : x < y
  · have H := Lib.hid (show x = z by omega)
    clear h
    go_enter Try.func115, Try.ntmps115
    go_wp2
    go_ret
    exact ⟨by rw [← H.out]; rfl, rfl⟩
  · have H := Lib.hid (show y = z by omega)
    clear h
    go_enter Try.func115, Try.ntmps115
    go_wp2
    go_ret
    exact ⟨by rw [← H.out]; rfl, rfl⟩
theorem c_l00Max_l (x y z : Int) (w : World) (h : max x y = z) : Calls Try.prog 116 #[.int .i64 x, .int .i64 y] w fun e w' => e = .returned (.int .i64 z) ∧ w = w' := by
  by_cases hl : x < y
  · have H := Lib.hid (show y = z by omega)
    have hl2 : ¬ y < x := by omega
    clear h
    go_enter Try.func116, Try.ntmps116
    go_wp2
    go_ret
    exact ⟨by rw [← H.out]; rfl, rfl⟩
  · by_cases hl2 : y < x
    · have H := Lib.hid (show x = z by omega)
      clear h
      go_enter Try.func116, Try.ntmps116
      go_wp2
      go_ret
      exact ⟨by rw [← H.out]; rfl, rfl⟩
    · obtain rfl : x = y := by omega
      have H := Lib.hid (show x = z by omega)
      clear h
      go_enter Try.func116, Try.ntmps116
      go_wp2
      go_ret
      exact ⟨by rw [← H.out]; rfl, rfl⟩
theorem c_spec_l06Last (b off n cap i long : Nat) (w : World) (hn : n ≤ 128) (hi : i < n) (hnc : n ≤ cap) (hl1 : 1 ≤ long) (hl2 : long ≤ 128) :
    Calls Try.prog 89 #[.slice (some ⟨b, off, none⟩) n cap, .int .i64 (i : Int), .int .i64 (long : Int)] w fun e w' => e = .returned (.slice (some ⟨b, off + (i + 1 - long), none⟩) (i + 1 - (i + 1 - long)) (cap - (i + 1 - long))) ∧ w = w' := by
  obtain ⟨f, hf⟩ : ∃ f, i + 1 - long = f := ⟨_, rfl⟩
  obtain ⟨d, hd⟩ : ∃ d, i + 1 - f = d := ⟨_, rfl⟩
  obtain ⟨c, hc⟩ : ∃ c, cap - f = c := ⟨_, rfl⟩
  rw [hf, hd, hc]
  have HM := Lib.hid (show max 0 ((i : Int) - (long : Int) + 1) = (f : Int) by omega)
  have e1 : (i : Int) < (n : Int) := by omega
  have e2 : (f : Int) ≤ (i : Int) + 1 := by omega
  have e3 : (i : Int) + 1 ≤ (cap : Int) := by omega
  have e4 : (long : Int) ≤ 128 := by omega
  have e5 : (n : Int) ≤ 128 := by omega
  have HD := Lib.hid hd
  have HC := Lib.hid hc
  have g1 : f ≤ i + 1 := by omega
  have g2 : i + 1 ≤ cap := by omega
  go_enter Try.func89, Try.ntmps89
  go_wp2_with (go_at_call 116; refine (c_l00Max_l _ _ _ _ HM.out).mono ?_; rintro e w' ⟨rfl, rfl⟩)
  go_ret
  exact ⟨by first | rfl | (rw [HD.out, HC.out]; done) | (rw [← HD.out, ← HC.out]; rfl), rfl⟩
end Go.Proofs.Ytplngjbllllanaa
