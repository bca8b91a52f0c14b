/- (the first least alone) LeastHash: what both sides answer. -/
import Derived.Test.YtfbapbgiegploaaIls
import Derived.Test.YtfbapbgiegploaaSca
import Derived.Deep.QuietTactic
import Derived.BigQuiet
import Derived.Deep.RegionWith
namespace Go.Proofs.Ytfbapbgiegploaa
open Go.ChangeShapes Go.WideShapes Go.ChangeAt Go.RowKit
set_option linter.unusedVariables false
/-- the first index of the least -/
def leastAt (f : Nat → Int) : Nat → Nat
  | 0 => 0
  | n + 1 => if f n < f (leastAt f n) then n else leastAt f n
theorem leastAt_one (f : Nat → Int) : leastAt f 1 = 0 := by
  show (if f 0 < f 0 then 0 else 0) = 0
  split <;> rfl
theorem leastAt_lt (f : Nat → Int) : ∀ n, leastAt f (n + 1) < n + 1
  | 0 => by rw [leastAt_one]; omega
  | n + 1 => by
    have ih := leastAt_lt f n
    show (if f (n + 1) < f (leastAt f (n + 1)) then n + 1 else leastAt f (n + 1)) < n + 2
    split <;> omega
theorem leastAt_le (f : Nat → Int) (n : Nat) (h : 1 ≤ n) : leastAt f n < n := by
  obtain ⟨m, rfl⟩ : ∃ m, n = m + 1 := ⟨n - 1, by omega⟩
  exact leastAt_lt f m
theorem leastAt_yes {f : Nat → Int} {n : Nat} (h : f n < f (leastAt f n)) : leastAt f (n + 1) = n := if_pos h
theorem leastAt_no {f : Nat → Int} {n : Nat} (h : ¬ f n < f (leastAt f n)) : leastAt f (n + 1) = leastAt f n := if_neg h
theorem leastAt_congr {f g : Nat → Int} : ∀ {n : Nat}, (∀ i, i < n → f i = g i) → leastAt f n = leastAt g n
  | 0, _ => rfl
  | n + 1, h => by
    have ih : leastAt f n = leastAt g n := leastAt_congr (fun i hi => h i (by omega))
    show (if f n < f (leastAt f n) then n else leastAt f n) = (if g n < g (leastAt g n) then n else leastAt g n)
    have hb : f (leastAt g n) = g (leastAt g n) := by
      apply h
      by_cases hn : n = 0
      · subst hn; show 0 < 1; omega
      · have := leastAt_le g n (by omega); omega
    rw [ih, h n (by omega), hb]
/-- the hash of the key at an index -/
theorem c_cmpIsNaN (x : Int) (w : World) : Calls Try.prog 272 #[.int .i64 x] w fun e w' => e = .returned (.bool false) ∧ w = w' := by
  go_enter Try.func272, Try.ntmps272
  go_wp2
  go_ret
  exact ⟨rfl, rfl⟩
theorem c_cmpLess (x y : Int) (w : World) {b : Bool} (h : decide (x < y) = b) : Calls Try.prog 307 #[.int .i64 x, .int .i64 y] w fun e w' => e = .returned (.bool b) ∧ w = w' := by
  subst h
  by_cases hlt : x < y
  · go_enter Try.func307, Try.ntmps307
    go_wp2_with (go_at_call 272; refine (c_cmpIsNaN _ _).mono ?_; rintro e w' ⟨rfl, rfl⟩)
    go_ret
    exact ⟨nbool (by first | rfl | simp [hlt]), rfl⟩
  · go_enter Try.func307, Try.ntmps307
    go_wp2_with (go_at_call 272; refine (c_cmpIsNaN _ _).mono ?_; rintro e w' ⟨rfl, rfl⟩)
    go_ret
    exact ⟨nbool (by first | rfl | simp [hlt]), rfl⟩
theorem c_firstLeast (a : Option Addr) (n cap : Nat) (zs : List Int) (w : World) (hn : n ≤ 1048576) (h1 : 1 ≤ n) (h : Reads w a n (ints zs)) :
    Calls Try.prog 215 #[.slice a n cap, .func (.func 307) #[] #[]] w fun e w' => e = .returned (.int .i64 (leastAt (fun i => zs[i]?.getD 0) n : Nat)) ∧ w = w' := by
  obtain ⟨rfl, hr⟩ := h.int
  rcases hr with h0 | ⟨b, off, rfl, hc⟩
  · omega
  have HC := Lib.hid hc
  clear hc h
  obtain ⟨f, hf⟩ : ∃ f : Nat → Int, (fun i => zs[i]?.getD 0) = f := ⟨_, rfl⟩
  have HF := Lib.hid (show ∀ i, zs[i]?.getD 0 = f i from fun i => congrFun hf i)
  rw [hf]
  clear hf
  go_enter Try.func215, Try.ntmps215
  go_wp2
  go_loopw [5, 10] (fun m i wr => ∃ k : Nat, k ≤ zs.length ∧ i = .int .i64 k ∧ m = .int .i64 (leastAt f k : Nat) ∧ wr = w) (fun _ i _ => zs.length - (intOf i).toNat)
  case atStart => exact ⟨0, by omega, rfl, rfl, rfl⟩
  case round =>
    obtain ⟨k, hk, rfl, rfl, rfl⟩ := hrel
    by_cases hlt : k < zs.length
    · obtain ⟨m, hm⟩ : ∃ m, leastAt f k = m := ⟨_, rfl⟩
      have hml : m < zs.length := by
        rw [← hm]
        by_cases h0 : k = 0
        · subst h0; exact hlt
        · have := leastAt_le f k (by omega); omega
      have hcx := HC.out k hlt
      have hcy := HC.out m hml
      rw [HF.out] at hcx hcy
      obtain ⟨u, hu⟩ : ∃ u, f k = u := ⟨_, rfl⟩
      obtain ⟨v, hv⟩ : ∃ v, f m = v := ⟨_, rfl⟩
      rw [hu] at hcx
      rw [hv] at hcy
      rw [hm]
      by_cases hlt2 : u < v
      · have HL := Lib.hid (show leastAt f (k + 1) = k from leastAt_yes (by rw [hm, hu, hv]; exact hlt2))
        have HD := Lib.hid (show decide (u < v) = true from decide_eq_true hlt2)
        clear hu hv hm
        go_wp2_with (go_at_call 307; refine (c_cmpLess u v _ HD.out).mono ?_; rintro e w' ⟨rfl, rfl⟩)
        go_roundw
        case rel => exact ⟨k + 1, by omega, by go_num, by rw [HL.out], by first | rfl | trivial⟩
        case measure => simp [intOf]; omega
      · have HL := Lib.hid (show leastAt f (k + 1) = m from by rw [leastAt_no (by rw [hm, hu, hv]; exact hlt2), hm])
        have HD := Lib.hid (show decide (u < v) = false from decide_eq_false hlt2)
        clear hu hv hm
        go_wp2_with (go_at_call 307; refine (c_cmpLess u v _ HD.out).mono ?_; rintro e w' ⟨rfl, rfl⟩)
        go_roundw
        case rel => exact ⟨k + 1, by omega, by go_num, by rw [HL.out], by first | rfl | trivial⟩
        case measure => simp [intOf]; omega
    · obtain rfl : k = zs.length := by omega
      go_wp2
      go_ret
      exact ⟨rfl, rfl⟩
end Go.Proofs.Ytfbapbgiegploaa
