/- BandPairs: an equal band, by the other side. -/
import Derived.Test.YtibldgcfplpdkaaSsb
import Derived.Test.YtibldgcfplpdkaaAll
import Derived.Deep.QuietTactic
namespace Go.Proofs.Ytibldgcfplpdkaa
open Go.ChangeShapes Go.WideShapes Go.ChangeAt Go.RowKit
set_option linter.unusedVariables false
def getBo (xs : List Bool) (i : Nat) : Bool := xs[i]?.getD false
def sameAt (xs ys : List Bool) (f k : Nat) : Bool := allTo k fun i => getBo xs (f + i) == getBo ys (f + i)
def bandB (xs ys : List Bool) (wide q : Nat) : Bool := (List.range q).any fun j => sameAt xs ys (j * wide) wide
theorem sameAt_succ (xs ys : List Bool) (f k : Nat) : sameAt xs ys f (k + 1) = (sameAt xs ys f k && (getBo xs (f + k) == getBo ys (f + k))) := by
  unfold sameAt allTo; rw [List.range_succ, List.all_append]; simp
theorem bandB_yes {xs ys : List Bool} {wide q j : Nat} (hj : j < q) (h : sameAt xs ys (j * wide) wide = true) : bandB xs ys wide q = true := by
  unfold bandB; rw [List.any_eq_true]; exact ⟨j, List.mem_range.2 hj, h⟩
theorem bandB_no {xs ys : List Bool} {wide q : Nat} (h : ∀ j, j < q → sameAt xs ys (j * wide) wide = false) : bandB xs ys wide q = false := by
  unfold bandB; rw [List.any_eq_false]; intro j hj; rw [h j (List.mem_range.1 hj)]; decide
set_option maxHeartbeats 2000000 in
theorem c_spec_l07Band (a a' : Option Addr) (n cap cap' wide q : Nat) (xs ys : List Bool) (w : World) {r : Bool} (hr : bandB xs ys wide q = r) (hq : n = q * wide) (hw : 1 ≤ wide) (hww : wide ≤ 64) (hn : n ≤ 1048576) (h : Reads w a n (bools xs)) (h' : Reads w a' n (bools ys)) :
    Calls Try.prog 121 #[.slice a n cap, .slice a' n cap', .int .i64 wide] w fun e w' => e = .returned (.bool r) ∧ ∃ m, w' = w.drewN m := by
  have HR := Lib.hid hr
  have HX := Lib.hid h.bool.2
  have HY := Lib.hid h'.bool.2
  have HQ := Lib.hid hq
  clear hr h h' hq
  go_enter Try.func121, Try.ntmps121
  go_wp2
  go_loopw [7] (fun i wr => ∃ j m : Nat, j ≤ q ∧ i = .int .i64 ((j * wide : Nat) : Int) ∧ wr = w.drewN m ∧ ∀ i, i < j → sameAt xs ys (i * wide) wide = false) (fun i _ => n - (intOf i).toNat)
  case atStart => exact ⟨0, 0, Nat.zero_le _, by rw [Nat.zero_mul]; rfl, rfl, fun i hi => absurd hi (Nat.not_lt_zero _)⟩
  case round =>
    obtain ⟨j, m, hj, rfl, rfl, hall⟩ := hrel
    have HA := Lib.hid hall
    clear hall
    obtain ⟨f, hf⟩ : ∃ f, j * wide = f := ⟨_, rfl⟩
    have HF := Lib.hid hf
    rw [hf]
    by_cases hlt : j < q
    · have hfn : f + wide ≤ n := by
        have h1 := Nat.mul_le_mul_right wide (show j + 1 ≤ q from hlt)
        rw [Nat.succ_mul, hf] at h1
        rw [HQ.out]; exact h1
      have hfI : (f : Int) < (n : Int) := by omega
      clear hf
      rcases HX.out with h0 | ⟨b, off, rfl, hc⟩
      · omega
      rcases HY.out with h0 | ⟨b', off', rfl, hc'⟩
      · omega
      have HC := Lib.hid hc
      have HC' := Lib.hid hc'
      clear hc hc'
      go_wp2
      go_loopw [8, 9] (fun s i wr => ∃ k m : Nat, k ≤ wide ∧ i = .int .i64 ((f + k : Nat) : Int) ∧ s = .bool (sameAt xs ys f k) ∧ wr = w.drewN m) (fun _ i _ => f + wide - (intOf i).toNat)
      case atStart => exact ⟨0, m, Nat.zero_le _, rfl, rfl, rfl⟩
      case round =>
        obtain ⟨k, m2, hk, rfl, rfl, rfl⟩ := hrel
        obtain ⟨g, hg⟩ : ∃ g, f + k = g := ⟨_, rfl⟩
        have HG := Lib.hid hg
        by_cases hlt2 : k < wide
        · have hgn : g < n := by omega
          have hgI : (g : Int) < (f : Int) + (wide : Int) := by omega
          have c1 := HC.out g hgn
          have c2 := HC'.out g hgn
          obtain ⟨x, hx⟩ : ∃ x, xs[g]?.getD false = x := ⟨_, rfl⟩
          obtain ⟨y, hy⟩ : ∃ y, ys[g]?.getD false = y := ⟨_, rfl⟩
          have HN := Lib.hid (show sameAt xs ys f (k + 1) = (sameAt xs ys f k && (x == y)) by
            rw [sameAt_succ, hg]; unfold getBo; rw [hx, hy])
          rw [hx] at c1
          rw [hy] at c2
          rw [hg]
          clear hx hy
          cases hs : sameAt xs ys f k
          · rw [hs] at HN
            go_wp2
            go_quiet (fail)
            go_wp2
            go_roundw
            case rel => exact ⟨k + 1, _, by omega, by rw [← Nat.add_assoc, HG.out]; go_num, by rw [HN.out]; rfl, rfl⟩
            case measure => simp [intOf]; omega
          · rw [hs] at HN
            go_wp2
            go_quiet (fail)
            go_wp2
            go_roundw
            case rel => exact ⟨k + 1, _, by omega, by rw [← Nat.add_assoc, HG.out]; go_num, by rw [HN.out]; first | rfl | simp, rfl⟩
            case measure => simp [intOf]; omega
        · have hkw : k = wide := by omega
          subst hkw
          have hgI : ¬ (g : Int) < (f : Int) + (k : Int) := by omega
          rw [hg]
          cases hs : sameAt xs ys f k
          · have HS := Lib.hid hs
            go_wp2
            go_roundw
            case rel => exact ⟨j + 1, m2, by omega, by rw [Nat.succ_mul, HF.out]; go_num, rfl, fun i hi => by
              by_cases e : i = j
              · subst e; rw [HF.out]; exact HS.out
              · exact HA.out i (by omega)⟩
            case measure => simp [intOf]; omega
          · have HS := Lib.hid (bandB_yes (xs := xs) (ys := ys) hlt (by rw [HF.out]; exact hs))
            go_wp2
            go_ret
            exact ⟨by rw [← HR.out, HS.out]; rfl, _, rfl⟩
    · have hjq : j = q := by omega
      subst hjq
      have HN := Lib.hid (bandB_no HA.out)
      have hfI : ¬ (f : Int) < (n : Int) := by have := HQ.out; omega
      clear hf
      go_wp2
      go_ret
      exact ⟨by rw [← HR.out, HN.out]; rfl, _, rfl⟩
end Go.Proofs.Ytibldgcfplpdkaa
