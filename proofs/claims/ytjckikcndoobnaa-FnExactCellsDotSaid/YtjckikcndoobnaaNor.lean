/- SignedNorm, rowDots: both sides. -/
import Derived.Test.YtjckikcndoobnaaSat

import Derived.Test.YtjckikcndoobnaaMeb
namespace Go.Proofs.Ytjckikcndoobnaa
open Go.ChangeShapes Go.WideShapes Go.ChangeAt Go.RowKit
set_option linter.unusedVariables false
/-- the product of two rows -/
def dotRow (m : Nat) (zs ys : List Int) (r : Nat) : Int := sumZ (fun i => zs[r * m + i]?.getD 0 * ys[r * m + i]?.getD 0) m
def dotsZ (m d : Nat) (zs ys : List Int) : List Int := (List.range d).map fun r => dotRow m zs ys r
theorem dotsZ_length (m d : Nat) (zs ys : List Int) : (dotsZ m d zs ys).length = d := by simp [dotsZ]
theorem dotsZ_get (m d : Nat) (zs ys : List Int) (r : Nat) (h : r < d) : (dotsZ m d zs ys)[r]?.getD 0 = dotRow m zs ys r := by simp [dotsZ, h]
theorem dotsZ_snoc (m k : Nat) (zs ys : List Int) : ints (dotsZ m (k + 1) zs ys) = ints (dotsZ m k zs ys) ++ [.int .i64 (dotRow m zs ys k)] := by simp [dotsZ, ints, List.range_succ]
theorem prod_bd {x y : Int} (h1 : -1000000 ≤ x) (h2 : x ≤ 1000000) (h3 : -1000000 ≤ y) (h4 : y ≤ 1000000) : -1000000000000 ≤ x * y ∧ x * y ≤ 1000000000000 := by
  have a1 : 0 ≤ (1000000 - x) * (1000000 - y) := Int.mul_nonneg (by omega) (by omega)
  have a2 : 0 ≤ (1000000 + x) * (1000000 + y) := Int.mul_nonneg (by omega) (by omega)
  have a3 : 0 ≤ (1000000 - x) * (1000000 + y) := Int.mul_nonneg (by omega) (by omega)
  have a4 : 0 ≤ (1000000 + x) * (1000000 - y) := Int.mul_nonneg (by omega) (by omega)
  simp only [Int.sub_mul, Int.add_mul, Int.mul_sub, Int.mul_add] at a1 a2 a3 a4
  omega
def normR (W D S : Int) (zs : List Int) : Int × Bool := if cellsB W D S zs && manyB 1000000 zs then (medZ (dotsZ W.toNat D.toNat zs zs), true) else (0, false)
theorem normR_no {W D S : Int} {zs : List Int} (h : (cellsB W D S zs && manyB 1000000 zs) = false) : normR W D S zs = (0, false) := by unfold normR; rw [h]; rfl
theorem normR_y {m d : Nat} {S : Int} {zs : List Int} (h : CellsOk m d S zs) (hm : manyB 1000000 zs = true) : normR m d S zs = (medZ (dotsZ m d zs zs), true) := by
  unfold normR
  rw [h.cellsB, hm]
  simp
theorem c_l00In_e3 (k lo hi : Int) (w : World) {b : Bool} (h : inB lo k hi = b) : Calls Try.prog 65 #[.int .i64 k, .int .i64 lo, .int .i64 hi] w fun e w' => e = .returned (.bool b) ∧ w = w' := by
  subst h; exact c_l00In k lo hi w
set_option maxHeartbeats 2000000 in
theorem c_spec_l03Small (b : Nat) (W D S : Int) (a : Option Addr) (n cap : Nat) (zs : List Int) (w : World) {r : Bool} (hr : manyB 1000000 zs = r) (hn : n ≤ 1048576)
    (hb : Box w b 27 #[.int .i64 W, .int .i64 D, .int .i64 S, .slice a n cap]) (h : Reads w a n (ints zs)) :
    Calls Try.prog 84 #[.pointer (some ⟨b, 0, none⟩)] w fun e w' => e = .returned (.bool r) ∧ w = w' := by
  obtain ⟨h0, h1, h2, h3⟩ := hb.four
  obtain ⟨hz, hrd⟩ := h.int
  have HZ := Lib.hid hz
  have HR := Lib.hid hrd
  have HB := Lib.hid hr
  clear hb hz hrd hr h
  go_enter Try.func84, Try.ntmps84
  go_wp2
  go_loop [9] (fun i => ∃ k : Nat, k ≤ n ∧ i = .int .i64 k ∧ ∀ j, j < k → inB (-1000000) (zs[j]?.getD 0) 1000000 = true) (fun i => n - (intOf i).toNat)
  case atStart => exact ⟨0, Nat.zero_le _, rfl, fun j hj => absurd hj (Nat.not_lt_zero _)⟩
  case round =>
    obtain ⟨k, hk, rfl, hall⟩ := hrel
    have HA := Lib.hid hall
    clear hall
    by_cases hlt : k < n
    · rcases HR.out with he | ⟨g, off, rfl, hc⟩
      · omega
      have hcell := hc k hlt
      obtain ⟨x, hx⟩ : ∃ x, zs[k]?.getD 0 = x := ⟨_, rfl⟩
      have HX := Lib.hid hx
      rw [hx] at hcell
      clear hc hx
      cases hin : inB (-1000000) x 1000000
      · have HI := Lib.hid hin
        clear hin
        go_wp2_with (go_at_call 65; refine (c_l00In_e3 x (-1000000) 1000000 _ HI.out).mono ?_; rintro e w' ⟨rfl, rfl⟩)
        go_ret
        exact ⟨retB (by rw [← HB.out]; exact (many_no (by rw [HZ.out]; exact hlt) HX.out HI.out).symm), rfl⟩
      · have HI := Lib.hid hin
        clear hin
        go_wp2_with (go_at_call 65; refine (c_l00In_e3 x (-1000000) 1000000 _ HI.out).mono ?_; rintro e w' ⟨rfl, rfl⟩)
        go_round
        case rel => exact ⟨k + 1, by omega, by go_num, fun j hj => by
          by_cases e : j = k
          · subst e; rw [HX.out]; exact HI.out
          · exact HA.out j (by omega)⟩
        case measure => simp [intOf]; omega
    · obtain rfl : k = n := by omega
      go_wp2
      go_ret
      exact ⟨retB (by rw [← HB.out]; exact (many_mk (by rw [HZ.out]; exact HA.out)).symm), rfl⟩
end Go.Proofs.Ytjckikcndoobnaa
