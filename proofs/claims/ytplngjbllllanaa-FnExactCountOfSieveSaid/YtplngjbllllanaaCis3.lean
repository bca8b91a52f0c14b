/- Cells: valid, on both sides. -/
import Derived.Test.YtplngjbllllanaaCel
import Derived.Test.YtplngjbllllanaaRow
import Derived.Deep.QuietTactic
import Derived.BigQuiet
import Derived.Deep.RegionWith
namespace Go.Proofs.Ytplngjbllllanaa
open Go.ChangeShapes Go.WideShapes Go.ChangeAt Go.RowKit
set_option linter.unusedVariables false
theorem retB {a b : Bool} (h : a = b) : Ending.returned (.bool a) = Ending.returned (.bool b) := by rw [h]
theorem c_l00In_b (k lo hi : Int) (w : World) {b : Bool} (h : inB lo k hi = b) : Calls Try.prog 126 #[.int .i64 k, .int .i64 lo, .int .i64 hi] w fun e w' => e = .returned (.bool b) ∧ w' = w := by
  subst h; exact (c_l00In k lo hi w).mono (by rintro e w' ⟨rfl, rfl⟩; exact ⟨rfl, rfl⟩)
theorem c_spec_l02Key_b (k : Int) (w : World) {b : Bool} (h : keyB k = b) : Calls Try.prog 93 #[.int .i64 k] w fun e w' => e = .returned (.bool b) ∧ w' = w := by
  subst h; exact (c_spec_l02Key k w).mono (by rintro e w' ⟨rfl, rfl⟩; exact ⟨rfl, rfl⟩)
theorem mul_wrap {m d : Nat} (h1 : m ≤ 64) (h2 : d ≤ 6) : IntKind.i64.wrap ((m : Int) * (d : Int)) = ((m * d : Nat) : Int) := by
  have : m * d ≤ 64 * 6 := Nat.mul_le_mul h1 h2
  rw [← Int.natCast_mul, IntKind.wrap_i64]
  omega
theorem many_mk {m : Int} {zs : List Int} (h : ∀ i, i < zs.length → inB (-m) (zs[i]?.getD 0) m = true) : manyB m zs = true := manyB_mk fun i hi => inB_is.1 (h i hi)
theorem many_in {m : Int} {zs : List Int} (h : manyB m zs = true) {i : Nat} (hi : i < zs.length) : inB (-m) (zs[i]?.getD 0) m = true := inB_is.2 (manyB_at h hi)
theorem many_no {m : Int} {zs : List Int} {i : Nat} (hi : i < zs.length) {x : Int} (hx : zs[i]?.getD 0 = x) (h : inB (-m) x m = false) : manyB m zs = false := by
  refine manyB_bad hi fun hc => ?_
  rw [hx] at hc
  rw [inB_is.2 hc] at h
  cases h
theorem c_impl_IsKey_b (k : Int) (w : World) {b : Bool} (h : keyB k = b) : Calls Try.prog 96 #[.int .i64 k] w fun e w' => e = .returned (.bool b) ∧ w' = w := by
  subst h; exact (c_impl_IsKey k w).mono (by rintro e w' ⟨rfl, rfl⟩; exact ⟨rfl, rfl⟩)
theorem sidesB_1 {W D S : Int} (h : W < 2) : sidesB W D S = false := by unfold sidesB inB; rw [decide_eq_false (by omega)]; rfl
theorem sidesB_2 {W D S : Int} (h : 64 < W) : sidesB W D S = false := by unfold sidesB inB; rw [decide_eq_false (by omega)]; rfl
theorem sidesB_3 {W D S : Int} (h : D < 1) : sidesB W D S = false := by unfold sidesB inB; rw [decide_eq_false (show ¬ (1 ≤ D ∧ D ≤ 6) by omega)]; simp
theorem sidesB_4 {W D S : Int} (h : 6 < D) : sidesB W D S = false := by unfold sidesB inB; rw [decide_eq_false (show ¬ (1 ≤ D ∧ D ≤ 6) by omega)]; simp
theorem sidesB_5 {W D S : Int} (h1 : 2 ≤ W) (h2 : W ≤ 64) (h3 : 1 ≤ D) (h4 : D ≤ 6) : sidesB W D S = keyB S := by unfold sidesB inB; rw [decide_eq_true ⟨h1, h2⟩, decide_eq_true ⟨h3, h4⟩]; rfl
theorem c_impl_isWithin (n m : Int) (w : World) {b : Bool} (h0 : 0 ≤ m) (h1 : m ≤ 1000000000000) (h : inB (-m) n m = b) : Calls Try.prog 174 #[.int .i64 n, .int .i64 m] w fun e w' => e = .returned (.bool b) ∧ w' = w := by
  by_cases g1 : n < -m
  · have H := Lib.hid (show b = false by rw [← h]; exact decide_eq_false (by omega))
    clear h
    go_enter Try.func174, Try.ntmps174
    go_wp2
    go_ret
    exact ⟨retB (by first | (rw [H.out]; done) | (rw [H.out]; rfl) | (rw [H.out]; simp; omega)), rfl⟩
  by_cases g2 : m < n
  · have H := Lib.hid (show b = false by rw [← h]; exact decide_eq_false (by omega))
    clear h
    go_enter Try.func174, Try.ntmps174
    go_wp2
    go_ret
    exact ⟨retB (by first | (rw [H.out]; done) | (rw [H.out]; rfl) | (rw [H.out]; simp; omega)), rfl⟩
  have H := Lib.hid (show b = true by rw [← h]; exact decide_eq_true (by omega))
  clear h
  go_enter Try.func174, Try.ntmps174
  go_wp2
  go_ret
  exact ⟨retB (by first | (rw [H.out]; done) | (rw [H.out]; rfl) | (rw [H.out]; simp; omega)), rfl⟩
set_option maxHeartbeats 1000000 in
theorem c_impl_areWithin (a : Option Addr) (n cap : Nat) (zs : List Int) (m : Int) (w : World) {r : Bool} (m0 : 0 ≤ m) (m1 : m ≤ 1000000000000) (hm : n ≤ maxLen) (hr : manyB m zs = r) (h : Reads w a n (ints zs)) :
    Calls Try.prog 144 #[.slice a n cap, .int .i64 m] w fun e w' => e = .returned (.bool r) ∧ w' = w := by
  unfold maxLen at hm
  obtain ⟨hz, hrd⟩ := h.int
  have HZ := Lib.hid hz
  have HR := Lib.hid hrd
  have HB := Lib.hid hr
  clear hz hrd hr h
  go_enter Try.func144, Try.ntmps144
  go_wp2
  go_loop [9] (fun i => ∃ k : Nat, k ≤ n ∧ i = .int .i64 k ∧ ∀ j, j < k → inB (-m) (zs[j]?.getD 0) m = true) (fun i => n - (intOf i).toNat)
  case atStart => exact ⟨0, Nat.zero_le _, rfl, fun j hj => absurd hj (Nat.not_lt_zero _)⟩
  case round =>
    obtain ⟨k, hk, rfl, hall⟩ := hrel
    have HA := Lib.hid hall
    clear hall
    by_cases hlt : k < n
    · rcases HR.out with he | ⟨g, off, rfl, hc⟩
      · omega
      have hcell := hc k hlt
      obtain ⟨x, hx⟩ : ∃ x, zs[k]?.getD 0 = x := ⟨_, rfl⟩
      have HX := Lib.hid hx
      rw [hx] at hcell
      clear hc hx
      cases hin : inB (-m) x m
      · have HI := Lib.hid hin
        clear hin
        go_wp2_with (go_at_call 174; refine (c_impl_isWithin x m _ m0 m1 HI.out).mono ?_; rintro e w' ⟨rfl, rfl⟩)
        go_ret
        exact ⟨retB (by rw [← HB.out]; exact (many_no (by rw [HZ.out]; exact hlt) HX.out HI.out).symm), rfl⟩
      · have HI := Lib.hid hin
        clear hin
        go_wp2_with (go_at_call 174; refine (c_impl_isWithin x m _ m0 m1 HI.out).mono ?_; rintro e w' ⟨rfl, rfl⟩)
        go_round
        case rel => exact ⟨k + 1, by omega, by go_num, fun j hj => by
          by_cases e : j = k
          · subst e; rw [HX.out]; exact HI.out
          · exact HA.out j (by omega)⟩
        case measure => simp [intOf]; omega
    · obtain rfl : k = n := by omega
      go_wp2
      go_ret
      exact ⟨retB (by rw [← HB.out]; exact (many_mk (by rw [HZ.out]; exact HA.out)).symm), rfl⟩
end Go.Proofs.Ytplngjbllllanaa
