/- x -/
import Derived.Test.YtfbapbgiegploaaSrl
import Derived.Test.YtfbapbgiegploaaRows
import Derived.ProofKit
import Derived.OpenShut
import Derived.Handy
import Derived.OwnWalk
import Derived.Deep.QuietTactic
import Derived.BigQuiet
import Derived.Outline
namespace Go.Proofs.Ytfbapbgiegploaa
open Go.ChangeShapes Go.WideShapes Go.ChangeAt Go.RowKit Go.Proofs.Ytfbapbgiegploaa.Smg
set_option linter.unusedVariables false
set_option maxHeartbeats 4000000 in
theorem c_swpK (b n c a d k : Nat) (g : Nat → Int × Nat) (f : Nat → Value) (cb : Array Value) (w : World) (hn : n ≤ 1048576) (hc : n ≤ c) (h1 : a + k ≤ d) (h2 : d + k ≤ n) (h : w.rowIs b 2 c (rowG (Value.int .i64) n g f)) :
    Calls Try.prog 329 #[.slice (some ⟨b, 0, none⟩) n c, .int .i64 a, .int .i64 d, .int .i64 k, .func (.func 212) #[] cb] w fun e w' => e = .returned (.tuple #[]) ∧ w'.rowIs b 2 c (rowG (Value.int .i64) n (swpF g a d k) f) ∧ Touch b (b + 1) w w' := by
  have H := Lib.hid h
  clear h
  go_enter Try.func329, Try.ntmps329
  go_wp2
  go_loopw [10] (fun i wr => ∃ q : Nat, q ≤ k ∧ i = .int .i64 q ∧ wr.rowIs b 2 c (rowG (Value.int .i64) n (swpF g a d q) f) ∧ Touch b (b + 1) w wr) (fun i _ => k - (intOf i).toNat)
  case atStart => exact ⟨0, Nat.zero_le _, rfl, by rw [swpF_zero]; exact H.out, Touch.refl _ _ _⟩
  case round =>
    obtain ⟨q, hq, rfl, hrow, ht⟩ := hrel
    have HR := Lib.hid hrow
    have HT := Lib.hid ht
    clear hrow ht
    by_cases hlt : q < k
    · obtain ⟨i, hi⟩ : ∃ i, a + q = i := ⟨_, rfl⟩
      obtain ⟨j, hj⟩ : ∃ j, d + q = j := ⟨_, rfl⟩
      obtain ⟨x, hx⟩ : ∃ x, (swpF g a d q i).1 = x := ⟨_, rfl⟩
      obtain ⟨y, hy⟩ : ∃ y, (swpF g a d q j).1 = y := ⟨_, rfl⟩
      have c1 := HR.out.cell (i := i) (by omega)
      have c2 := HR.out.cell (i := j) (by omega)
      rw [rowG_at (by omega), hx] at c1
      rw [rowG_at (by omega), hy] at c2
      have f1 := HR.out.frozen i
      have f2 := HR.out.frozen j
      have e1 : (a : Int) + (q : Int) = (i : Int) := by omega
      have e2 : (d : Int) + (q : Int) = (j : Int) := by omega
      have e1w : IntKind.i64.wrap ((a : Int) + (q : Int)) = (i : Int) := by rw [e1, IntKind.wrap_i64]; omega
      have e2w : IntKind.i64.wrap ((d : Int) + (q : Int)) = (j : Int) := by rw [e2, IntKind.wrap_i64]; omega
      have e3 : (q : Int) < (k : Int) := by omega
      have e4 : (i : Int) < (n : Int) := by omega
      have e5 : (j : Int) < (n : Int) := by omega
      have e6 : (0 : Int) ≤ (i : Int) := by omega
      have e7 : (0 : Int) ≤ (j : Int) := by omega
      have ne1 : i ≠ j := by omega
      have ne2 : j ≠ i := by omega
      have HS := Lib.hid (show ((wr.setCell ⟨b, i, none⟩ (.int .i64 y)).setCell ⟨b, j, none⟩ (.int .i64 x)).rowIs b 2 c (rowG (Value.int .i64) n (swpF g a d (q + 1)) f) from by
        have h3 := rowG_swap HR.out (i := i) (j := j) (by omega) (by omega) hx hy ne1
        rw [← hi, ← hj, swpF_step g a d q (by omega)] at h3
        rw [← hi, ← hj]; exact h3)
      clear hi hj hx hy
      go_wp2
      go_region
      all_goals
        clear c1 c2 f1 f2
        go_wp2
        go_roundw
        case rel => exact ⟨q + 1, by omega, by go_num, by first | exact HS.out | exact rowD HS.out _, by first | exact touch1 (touch1 HT.out _ _) _ _ | exact touchN (touch1 (touch1 HT.out _ _) _ _) _⟩
        case measure => simp [intOf]; omega
    · obtain rfl : q = k := by omega
      go_wp2
      go_end0
      exact ⟨rfl, HR.out, HT.out⟩
end Go.Proofs.Ytfbapbgiegploaa
