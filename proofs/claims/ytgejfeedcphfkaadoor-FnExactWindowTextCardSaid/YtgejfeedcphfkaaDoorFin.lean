/- Fingers and zeros: valid, on both sides. -/
import Derived.Test.YtgejfeedcphfkaaDoorGri
namespace Go.Proofs.YtgejfeedcphfkaaDoor
open Go.ChangeShapes Go.WideShapes Go.ChangeAt Go.RowKit
set_option linter.unusedVariables false
theorem doub_le256 {lo m k : Nat} (hk : k < m) (h : ∀ k, k < m → lo * 2 ^ k ≤ 256) : lo * 2 ^ k ≤ 256 := h k hk
theorem and_doub2 : ∀ n : Fin 257, 2 ≤ n.val → (bits .and .i64 (n.val : Int) ((n.val : Int) - 1) == 0) = doubB n.val 2 8 := by decide +kernel
theorem and_doub16 : ∀ n : Fin 257, 16 ≤ n.val → (bits .and .i64 (n.val : Int) ((n.val : Int) - 1) == 0) = doubB n.val 16 5 := by decide +kernel
theorem doub_out2 {n : Nat} (h : n < 2 ∨ 256 < n) : doubB n 2 8 = false := doubB_no fun k hk e => by
  have : 2 * 2 ^ k ≤ 256 := (show ∀ k, k < 8 → 2 * 2 ^ k ≤ 256 by decide) k hk
  have h2 : 1 ≤ 2 ^ k := Nat.one_le_two_pow
  omega
theorem doub_out16 {n : Nat} (h : n < 16 ∨ 256 < n) : doubB n 16 5 = false := doubB_no fun k hk e => by
  have : 16 * 2 ^ k ≤ 256 := (show ∀ k, k < 5 → 16 * 2 ^ k ≤ 256 by decide) k hk
  have h2 : 1 ≤ 2 ^ k := Nat.one_le_two_pow
  omega
theorem c_impl_isDoubled_2 (n : Nat) (w : World) {r : Bool} (hm : n ≤ maxLen) (h : doubB n 2 8 = r) :
    Calls Tryd.prog 79 #[.int .i64 n, .int .i64 2, .int .i64 256] w fun e w' => e = .returned (.bool r) ∧ w = w' := by
  unfold maxLen at hm
  by_cases h1 : n < 2
  · have H := Lib.hid (show r = false by rw [← h]; exact doub_out2 (.inl h1))
    have h1' : (n : Int) < 2 := by omega
    clear h h1
    go_enter Tryd.func79, Tryd.ntmps79
    go_wp2
    go_ret
    exact ⟨retB (by first | (rw [H.out]; done) | (rw [H.out]; rfl) | (rw [H.out]; simp; omega)), rfl⟩
  by_cases h2 : 256 < n
  · have H := Lib.hid (show r = false by rw [← h]; exact doub_out2 (.inr h2))
    have h1' : ¬ (n : Int) < 2 := by omega
    have h2' : (256 : Int) < (n : Int) := by omega
    clear h h1 h2
    go_enter Tryd.func79, Tryd.ntmps79
    go_wp2
    go_ret
    exact ⟨retB (by first | (rw [H.out]; done) | (rw [H.out]; rfl) | (rw [H.out]; simp; omega)), rfl⟩
  have H := Lib.hid (show (bits .and .i64 (n : Int) ((n : Int) - 1) == 0) = r by rw [← h]; exact and_doub2 ⟨n, by omega⟩ (by show 2 ≤ n; omega))
  have h1' : (2 : Int) ≤ (n : Int) := by omega
  have h2' : (n : Int) ≤ 256 := by omega
  clear h h1 h2
  go_enter Tryd.func79, Tryd.ntmps79
  go_wp2
  go_ret
  exact ⟨retB H.out, rfl⟩
theorem c_impl_isDoubled_16 (n : Nat) (w : World) {r : Bool} (hm : n ≤ maxLen) (h : doubB n 16 5 = r) :
    Calls Tryd.prog 79 #[.int .i64 n, .int .i64 16, .int .i64 256] w fun e w' => e = .returned (.bool r) ∧ w = w' := by
  unfold maxLen at hm
  by_cases h1 : n < 16
  · have H := Lib.hid (show r = false by rw [← h]; exact doub_out16 (.inl h1))
    have h1' : (n : Int) < 16 := by omega
    clear h h1
    go_enter Tryd.func79, Tryd.ntmps79
    go_wp2
    go_ret
    exact ⟨retB (by first | (rw [H.out]; done) | (rw [H.out]; rfl) | (rw [H.out]; simp; omega)), rfl⟩
  by_cases h2 : 256 < n
  · have H := Lib.hid (show r = false by rw [← h]; exact doub_out16 (.inr h2))
    have h1' : ¬ (n : Int) < 16 := by omega
    have h2' : (256 : Int) < (n : Int) := by omega
    clear h h1 h2
    go_enter Tryd.func79, Tryd.ntmps79
    go_wp2
    go_ret
    exact ⟨retB (by first | (rw [H.out]; done) | (rw [H.out]; rfl) | (rw [H.out]; simp; omega)), rfl⟩
  have H := Lib.hid (show (bits .and .i64 (n : Int) ((n : Int) - 1) == 0) = r by rw [← h]; exact and_doub16 ⟨n, by omega⟩ (by show 16 ≤ n; omega))
  have h1' : (16 : Int) ≤ (n : Int) := by omega
  have h2' : (n : Int) ≤ 256 := by omega
  clear h h1 h2
  go_enter Tryd.func79, Tryd.ntmps79
  go_wp2
  go_ret
  exact ⟨retB H.out, rfl⟩
theorem c_spec_l04Power (n lo m hi : Nat) (w : World) {r : Bool} (hlo : lo ≤ 16) (hlo0 : 1 ≤ lo) (hhi : hi ≤ 256) (hin : ∀ k, k < m → lo * 2 ^ k ≤ hi) (hout : hi < lo * 2 ^ m ∧ lo * 2 ^ m ≤ 512) (h : doubB n lo m = r) :
    Calls Tryd.prog 74 #[.int .i64 n, .int .i64 lo, .int .i64 hi] w fun e w' => e = .returned (.bool r) ∧ w = w' := by
  have hn0 : lo * 2 ^ m ≤ 512 := hout.2
  have HN := Lib.hid hin
  have HO := Lib.hid hout.1
  have HB := Lib.hid h
  clear hin hout h
  go_enter Tryd.func74, Tryd.ntmps74
  go_wp2
  go_loop [7] (fun i => ∃ k q : Nat, k ≤ m ∧ lo * 2 ^ k = q ∧ q ≤ 512 ∧ i = .int .i64 q ∧ ∀ j, j < k → n ≠ lo * 2 ^ j) (fun i => 1024 - (intOf i).toNat)
  case atStart => exact ⟨0, lo, Nat.zero_le _, by simp, by omega, rfl, fun j hj => absurd hj (Nat.not_lt_zero _)⟩
  case round =>
    obtain ⟨k, q, hk, hq, hq5, rfl, hall⟩ := hrel
    have HA := Lib.hid hall
    have HQ := Lib.hid hq
    have hq0 : 1 ≤ q := by have : 1 ≤ 2 ^ k := Nat.one_le_two_pow; have h2 : 1 * 1 ≤ lo * 2 ^ k := Nat.mul_le_mul hlo0 this; omega
    by_cases hlt : k < m
    · have hqh := HN.out k hlt
      rw [hq] at hqh
      clear hall hq
      by_cases he : n = q
      · have HR := Lib.hid (show r = true by rw [← HB.out]; exact doubB_mk k hlt (by rw [HQ.out]; exact he))
        subst he
        go_wp2
        go_ret
        exact ⟨retB HR.out.symm, rfl⟩
      · have he1 : ((q : Int) == (n : Int)) = false := by simp; omega
        have he2 : ¬ (q : Int) = (n : Int) := by omega
        have hqh' : (q : Int) ≤ (hi : Int) := by omega
        have hn2 : lo * 2 ^ (k + 1) = 2 * q := by rw [Nat.pow_succ, ← HQ.out, ← Nat.mul_assoc]; omega
        have HN2 := Lib.hid hn2
        have hq2 : 2 * q ≤ 512 := by
          by_cases h3 : k + 1 < m
          · have := HN.out (k + 1) h3; omega
          · have : k + 1 = m := by omega
            subst this; omega
        clear hn2
        go_wp2
        go_round
        case rel => exact ⟨k + 1, 2 * q, by omega, HN2.out, hq2, by go_num, fun j hj => by
          by_cases e : j = k
          · subst e; rw [HQ.out]; exact he
          · exact HA.out j (by omega)⟩
        case measure => simp [intOf]; omega
    · obtain rfl : k = m := by omega
      have HR := Lib.hid (show r = false by rw [← HB.out]; exact doubB_no HA.out)
      have hqh : hi < q := by have := HO.out; omega
      have hqh' : (hi : Int) < (q : Int) := by omega
      clear hall hq hqh
      go_wp2
      go_ret
      exact ⟨retB HR.out.symm, rfl⟩
set_option maxHeartbeats 4000000 in
theorem c_spec_l04Zeros (b : Nat) (S : Int) (a : Option Addr) (n cap : Nat) (zs : List Int) (w : World) {r : Bool} (hr : cellsUp S zs 16 5 33 = r)
    (hb : Box w b 28 #[.int .i64 S, .slice a n cap]) (hm : n ≤ maxLen) (h : Reads w a n (ints zs)) :
    Calls Tryd.prog 42 #[.pointer (some ⟨b, 0, none⟩)] w fun e w' => e = .returned (.bool r) ∧ ∃ q, w' = w.drewN q := by
  obtain ⟨h0, h1⟩ := hb.two
  obtain ⟨hz, hrd⟩ := h.int
  unfold maxLen at hm
  clear hb h
  cases e2 : keyB S
  · have H2 := Lib.hid e2
    have HR := Lib.hid (show r = false by rw [← hr]; exact cellsUp_1 e2)
    clear e2 hr hz hrd
    go_enter Tryd.func42, Tryd.ntmps42
    go_wp2_with (go_at_call 73; refine (c_spec_l02Key_q S _ H2.out).mono ?_; rintro e w' ⟨rfl, rfl⟩)
    go_ret
    exact ⟨retB HR.out.symm, 0, rfl⟩
  have H2 := Lib.hid e2
  cases e3 : doubB n 16 5
  · have H3 := Lib.hid e3
    have HR := Lib.hid (show r = false by rw [← hr]; exact cellsUp_2 (by rw [hz]; exact e3))
    clear e2 e3 hr hz hrd
    go_enter Tryd.func42, Tryd.ntmps42
    go_wp2_with (first | (go_at_call 73; refine (c_spec_l02Key_q S _ H2.out).mono ?_; rintro e w' ⟨rfl, rfl⟩) | (go_at_call 74; refine (c_spec_l04Power n 16 5 256 _ (by decide) (by decide) (by decide) (by decide) (by decide) H3.out).mono ?_; rintro e w' ⟨rfl, rfl⟩))
    go_ret
    exact ⟨retB HR.out.symm, 0, rfl⟩
  have H3 := Lib.hid e3
  have hn : n ≤ 256 := by obtain ⟨k, hk, e⟩ := doubB_yes e3; have := doub_le256 (lo := 16) (m := 5) hk (by decide); omega
  have HB := Lib.hid (show upB 33 zs = r by rw [← hr]; exact (cellsUp_3 e2 (by rw [hz]; exact e3)).symm)
  have HZ := Lib.hid hz
  have HR := Lib.hid hrd
  clear e2 e3 hr hz hrd
  go_enter Tryd.func42, Tryd.ntmps42
  go_wp2_with (first | (go_at_call 73; refine (c_spec_l02Key_q S _ H2.out).mono ?_; rintro e w' ⟨rfl, rfl⟩) | (go_at_call 74; refine (c_spec_l04Power n 16 5 256 _ (by decide) (by decide) (by decide) (by decide) (by decide) H3.out).mono ?_; rintro e w' ⟨rfl, rfl⟩))
  go_loop [3] (fun i => ∃ k : Nat, k ≤ n ∧ i = .int .i64 k ∧ ∀ j, j < k → inB 0 (zs[j]?.getD 0) 33 = true) (fun i => n - (intOf i).toNat)
  case atStart => exact ⟨0, Nat.zero_le _, rfl, fun j hj => absurd hj (Nat.not_lt_zero _)⟩
  case round =>
    obtain ⟨k, hk, rfl, hall⟩ := hrel
    have HA := Lib.hid hall
    clear hall
    by_cases hlt : k < n
    · rcases HR.out with he | ⟨g, off, rfl, hc⟩
      · omega
      have hcell := hc k hlt
      obtain ⟨x, hx⟩ : ∃ x, zs[k]?.getD 0 = x := ⟨_, rfl⟩
      have HX := Lib.hid hx
      rw [hx] at hcell
      clear hc hx
      cases hin : inB 0 x 33
      · have HI := Lib.hid hin
        clear hin
        go_wp2_with (go_at_call 75; refine (c_l00In_e x 0 33 _ HI.out).mono ?_; rintro e w' ⟨rfl, rfl⟩)
        go_ret
        exact ⟨retB (by rw [← HB.out]; exact (upB_no (by rw [HZ.out]; exact hlt) HX.out HI.out).symm), 0, rfl⟩
      · have HI := Lib.hid hin
        clear hin
        go_wp2_with (go_at_call 75; refine (c_l00In_e x 0 33 _ HI.out).mono ?_; rintro e w' ⟨rfl, rfl⟩)
        go_round
        case rel => exact ⟨k + 1, by omega, by go_num, fun j hj => by
          by_cases e : j = k
          · subst e; rw [HX.out]; exact HI.out
          · exact HA.out j (by omega)⟩
        case measure => simp [intOf]; omega
    · obtain rfl : k = n := by omega
      go_wp2
      go_ret
      exact ⟨retB (by rw [← HB.out]; exact (upB_mk (by rw [HZ.out]; exact HA.out)).symm), 0, rfl⟩
set_option maxHeartbeats 1000000 in
theorem c_impl_ValidZeros (S : Int) (a : Option Addr) (n cap : Nat) (zs : List Int) (w : World) {r : Bool} (hr : cellsUp S zs 16 5 33 = r) (hm : n ≤ maxLen) (h : Reads w a n (ints zs)) :
    Calls Tryd.prog 46 #[.agg #[.int .i64 S, .slice a n cap]] w fun e w' => e = .returned (.bool r) ∧ Ext w w' := by
  have H := Lib.hid h
  have hz : zs.length = n := h.int.1
  clear h
  cases e2 : keyB S
  · have H2 := Lib.hid e2
    have HR := Lib.hid (show r = false by rw [← hr]; exact cellsUp_1 e2)
    clear e2 hr hz
    go_enter Tryd.func46, Tryd.ntmps46
    go_wp2_with (go_at_call 78; refine (c_impl_IsKey_q S _ H2.out).mono ?_; rintro e w' ⟨rfl, rfl⟩)
    go_ret
    exact ⟨retB HR.out.symm, by (repeat (first | assumption | exact Ext.refl _ | (with_reducible refine Ext.stepS ?_ (by first | exact Nat.le_refl _ | (simp; done) | (simp; omega)) _) | (with_reducible refine Ext.stepN ?_ _) | (with_reducible refine Ext.stepD ?_) | (with_reducible refine Ext.stepA ?_ _)))⟩
  have H2 := Lib.hid e2
  cases e3 : doubB n 16 5
  · have H3 := Lib.hid e3
    have HR := Lib.hid (show r = false by rw [← hr]; exact cellsUp_2 (by rw [hz]; exact e3))
    clear e2 e3 hr hz
    go_enter Tryd.func46, Tryd.ntmps46
    go_wp2_with (first | (go_at_call 78; refine (c_impl_IsKey_q S _ H2.out).mono ?_; rintro e w' ⟨rfl, rfl⟩) | (go_at_call 79; refine (c_impl_isDoubled_16 n _ hm H3.out).mono ?_; rintro e w' ⟨rfl, rfl⟩))
    go_ret
    exact ⟨retB HR.out.symm, by (repeat (first | assumption | exact Ext.refl _ | (with_reducible refine Ext.stepS ?_ (by first | exact Nat.le_refl _ | (simp; done) | (simp; omega)) _) | (with_reducible refine Ext.stepN ?_ _) | (with_reducible refine Ext.stepD ?_) | (with_reducible refine Ext.stepA ?_ _)))⟩
  have H3 := Lib.hid e3
  have HR := Lib.hid (show upB 33 zs = r by rw [← hr]; exact (cellsUp_3 e2 (by rw [hz]; exact e3)).symm)
  clear e2 e3 hr hz
  go_enter Tryd.func46, Tryd.ntmps46
  go_wp2_with (first | (go_at_call 78; refine (c_impl_IsKey_q S _ H2.out).mono ?_; rintro e w' ⟨rfl, rfl⟩) | (go_at_call 79; refine (c_impl_isDoubled_16 n _ hm H3.out).mono ?_; rintro e w' ⟨rfl, rfl⟩) | (go_at_call 80; refine (c_impl_areUpTo a n cap zs 33 _ (by decide) (by decide) hm HR.out (H.out.on (by (repeat (first | assumption | exact Ext.refl _ | (with_reducible refine Ext.stepS ?_ (by first | exact Nat.le_refl _ | (simp; done) | (simp; omega)) _) | (with_reducible refine Ext.stepN ?_ _) | (with_reducible refine Ext.stepD ?_) | (with_reducible refine Ext.stepA ?_ _)))))).mono ?_; rintro e w' ⟨rfl, rfl⟩))
  go_ret
  exact ⟨rfl, by (repeat (first | assumption | exact Ext.refl _ | (with_reducible refine Ext.stepS ?_ (by first | exact Nat.le_refl _ | (simp; done) | (simp; omega)) _) | (with_reducible refine Ext.stepN ?_ _) | (with_reducible refine Ext.stepD ?_) | (with_reducible refine Ext.stepA ?_ _)))⟩
end Go.Proofs.YtgejfeedcphfkaaDoor
