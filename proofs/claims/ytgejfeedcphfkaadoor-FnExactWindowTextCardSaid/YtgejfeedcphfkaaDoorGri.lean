/- Grids and places, on both sides. -/
import Derived.Test.YtgejfeedcphfkaaDoorKin
import Derived.Test.YtgejfeedcphfkaaDoorLcl
import Derived.Test.YtgejfeedcphfkaaDoorPla
import Derived.Test.YtgejfeedcphfkaaDoorChc
namespace Go.Proofs.YtgejfeedcphfkaaDoor
open Go.ChangeShapes Go.WideShapes Go.ChangeAt Go.RowKit
set_option linter.unusedVariables false
theorem in_lo {a b k : Int} (h : k < a) : inB a k b = false := decide_eq_false (by omega)
theorem in_hi {a b k : Int} (h : b < k) : inB a k b = false := decide_eq_false (by omega)
theorem in_yes {a b k : Int} (h1 : a ≤ k) (h2 : k ≤ b) : inB a k b = true := decide_eq_true ⟨h1, h2⟩
theorem gridB_yes {R S n : Int} (h1 : inB 1 R 8 = true) (h2 : inB 1 n 512 = true) : gridB R S n = keyB S := by unfold gridB; rw [h1, h2]; simp
theorem c_spec_l02Key_q (k : Int) (w : World) {b : Bool} (h : keyB k = b) : Calls Tryd.prog 73 #[.int .i64 k] w fun e w' => e = .returned (.bool b) ∧ w = w' := by
  subst h; exact c_spec_l02Key k w
theorem c_l00In_e (k lo hi : Int) (w : World) {b : Bool} (h : inB lo k hi = b) : Calls Tryd.prog 75 #[.int .i64 k, .int .i64 lo, .int .i64 hi] w fun e w' => e = .returned (.bool b) ∧ w = w' := by
  subst h; exact c_l00In k lo hi w
theorem c_impl_gridOfSieve (R S : Int) (a : Option Addr) (n cap : Nat) (w : World) :
    Calls Tryd.prog 84 #[.agg #[.int .i64 R, .int .i64 S, .slice a n cap]] w fun e w' => e = .returned (.agg #[.int .i64 R, .int .i64 S, .int .i64 n]) ∧ Ext w w' := by
  go_enter Tryd.func84, Tryd.ntmps84
  go_wp2
  exact bodyPost_ret (v := .agg #[.int .i64 R, .int .i64 S, .int .i64 n]) (by simp [results, Tryd.results84, go_sem]) rfl ⟨rfl, by (repeat (first | assumption | exact Ext.refl _ | (with_reducible refine Ext.stepS ?_ (by first | exact Nat.le_refl _ | (simp; done) | (simp; omega)) _) | (with_reducible refine Ext.stepN ?_ _) | (with_reducible refine Ext.stepD ?_) | (with_reducible refine Ext.stepA ?_ _)))⟩
set_option maxHeartbeats 1000000 in
theorem c_impl_isGrid (R S n : Int) (w : World) {r : Bool} (h : gridB R S n = r) :
    Calls Tryd.prog 83 #[.agg #[.int .i64 R, .int .i64 S, .int .i64 n]] w fun e w' => e = .returned (.bool r) ∧ Ext w w' := by
  by_cases h1 : R < 1
  · rw [gridB_1 (in_lo h1)] at h
    have H := Lib.hid h; clear h
    go_enter Tryd.func83, Tryd.ntmps83
    go_wp2
    go_ret
    exact ⟨retB (by first | (rw [← H.out]; done) | (rw [← H.out]; rfl) | (rw [← H.out]; simp; omega)), (Ext.refl _).stepA _⟩
  by_cases h2 : 8 < R
  · rw [gridB_1 (in_hi h2)] at h
    have H := Lib.hid h; clear h
    go_enter Tryd.func83, Tryd.ntmps83
    go_wp2
    go_ret
    exact ⟨retB (by first | (rw [← H.out]; done) | (rw [← H.out]; rfl) | (rw [← H.out]; simp; omega)), (Ext.refl _).stepA _⟩
  cases hk : keyB S
  · rw [gridB_2 hk] at h
    have H := Lib.hid h; have HK := Lib.hid hk; clear h hk
    go_enter Tryd.func83, Tryd.ntmps83
    go_wp2_with (go_at_call 78; refine (c_impl_IsKey_b S _ HK.out).mono ?_; rintro e w' ⟨rfl, rfl⟩)
    go_ret
    exact ⟨retB (by first | (rw [← H.out]; done) | (rw [← H.out]; rfl) | (rw [← H.out]; simp; omega)), (Ext.refl _).stepA _⟩
  have HK := Lib.hid hk
  by_cases h3 : n < 1
  · rw [gridB_3 (in_lo h3)] at h
    have H := Lib.hid h; clear h hk
    go_enter Tryd.func83, Tryd.ntmps83
    go_wp2_with (go_at_call 78; refine (c_impl_IsKey_b S _ HK.out).mono ?_; rintro e w' ⟨rfl, rfl⟩)
    go_ret
    exact ⟨retB (by first | (rw [← H.out]; done) | (rw [← H.out]; rfl) | (rw [← H.out]; simp; omega)), (Ext.refl _).stepA _⟩
  by_cases h4 : 512 < n
  · rw [gridB_3 (in_hi h4)] at h
    have H := Lib.hid h; clear h hk
    go_enter Tryd.func83, Tryd.ntmps83
    go_wp2_with (go_at_call 78; refine (c_impl_IsKey_b S _ HK.out).mono ?_; rintro e w' ⟨rfl, rfl⟩)
    go_ret
    exact ⟨retB (by first | (rw [← H.out]; done) | (rw [← H.out]; rfl) | (rw [← H.out]; simp; omega)), (Ext.refl _).stepA _⟩
  rw [gridB_yes (in_yes (by omega) (by omega)) (in_yes (by omega) (by omega)), hk] at h
  have H := Lib.hid h; clear h hk
  go_enter Tryd.func83, Tryd.ntmps83
  go_wp2_with (go_at_call 78; refine (c_impl_IsKey_b S _ HK.out).mono ?_; rintro e w' ⟨rfl, rfl⟩)
  go_ret
  exact ⟨retB (by first | (rw [← H.out]; done) | (rw [← H.out]; rfl) | (rw [← H.out]; simp; omega)), (Ext.refl _).stepA _⟩
theorem c_impl_IsKey_q (k : Int) (w : World) {b : Bool} (h : keyB k = b) : Calls Tryd.prog 78 #[.int .i64 k] w fun e w' => e = .returned (.bool b) ∧ w = w' := by
  subst h; exact c_impl_IsKey k w
theorem c_impl_areUpTo (a : Option Addr) (n cap : Nat) (zs : List Int) (m : Int) (w : World) {r : Bool} (m0 : 0 ≤ m) (m1 : m ≤ 1000000000000) (hm : n ≤ maxLen) (hr : upB m zs = r) (h : Reads w a n (ints zs)) :
    Calls Tryd.prog 80 #[.slice a n cap, .int .i64 m] w fun e w' => e = .returned (.bool r) ∧ w' = w := by
  unfold maxLen at hm
  obtain ⟨hz, hrd⟩ := h.int
  have HZ := Lib.hid hz
  have HR := Lib.hid hrd
  have HB := Lib.hid hr
  clear hz hrd hr h
  go_enter Tryd.func80, Tryd.ntmps80
  go_wp2
  go_loop [9] (fun i => ∃ k : Nat, k ≤ n ∧ i = .int .i64 k ∧ ∀ j, j < k → inB 0 (zs[j]?.getD 0) m = true) (fun i => n - (intOf i).toNat)
  case atStart => exact ⟨0, Nat.zero_le _, rfl, fun j hj => absurd hj (Nat.not_lt_zero _)⟩
  case round =>
    obtain ⟨k, hk, rfl, hall⟩ := hrel
    have HA := Lib.hid hall
    clear hall
    by_cases hlt : k < n
    · rcases HR.out with he | ⟨g, off, rfl, hc⟩
      · omega
      have hcell := hc k hlt
      obtain ⟨x, hx⟩ : ∃ x, zs[k]?.getD 0 = x := ⟨_, rfl⟩
      have HX := Lib.hid hx
      rw [hx] at hcell
      clear hc hx
      by_cases h0 : x < 0
      · have HI := Lib.hid (show inB 0 x m = false from decide_eq_false (by omega))
        go_wp2
        go_ret
        exact ⟨retB (by rw [← HB.out]; exact (upB_no (by rw [HZ.out]; exact hlt) HX.out HI.out).symm), rfl⟩
      · by_cases h1 : m < x
        · have HI := Lib.hid (show inB 0 x m = false from decide_eq_false (by omega))
          go_wp2
          go_ret
          exact ⟨retB (by rw [← HB.out]; exact (upB_no (by rw [HZ.out]; exact hlt) HX.out HI.out).symm), rfl⟩
        · have HI := Lib.hid (show inB 0 x m = true from decide_eq_true (by omega))
          go_wp2
          go_round
          case rel => exact ⟨k + 1, by omega, by go_num, fun j hj => by
            by_cases e : j = k
            · subst e; rw [HX.out]; exact HI.out
            · exact HA.out j (by omega)⟩
          case measure => simp [intOf]; omega
    · obtain rfl : k = n := by omega
      go_wp2
      go_ret
      exact ⟨retB (by rw [← HB.out]; exact (upB_mk (by rw [HZ.out]; exact HA.out)).symm), rfl⟩
end Go.Proofs.YtgejfeedcphfkaaDoor
