/- LeastHash: what both sides answer. -/
import Derived.Test.YtgejfeedcphfkaaDoorRow
import Derived.Test.YtgejfeedcphfkaaDoorSca
import Derived.Deep.QuietTactic
import Derived.BigQuiet
import Derived.Deep.RegionWith
namespace Go.Proofs.YtgejfeedcphfkaaDoor
open Go.ChangeShapes Go.WideShapes Go.ChangeAt Go.RowKit
set_option linter.unusedVariables false
/-- the first index of the least -/
def leastAt (f : Nat → Int) : Nat → Nat
  | 0 => 0
  | n + 1 => if f n < f (leastAt f n) then n else leastAt f n
theorem leastAt_one (f : Nat → Int) : leastAt f 1 = 0 := by
  show (if f 0 < f 0 then 0 else 0) = 0
  split <;> rfl
theorem leastAt_lt (f : Nat → Int) : ∀ n, leastAt f (n + 1) < n + 1
  | 0 => by rw [leastAt_one]; omega
  | n + 1 => by
    have ih := leastAt_lt f n
    show (if f (n + 1) < f (leastAt f (n + 1)) then n + 1 else leastAt f (n + 1)) < n + 2
    split <;> omega
theorem leastAt_le (f : Nat → Int) (n : Nat) (h : 1 ≤ n) : leastAt f n < n := by
  obtain ⟨m, rfl⟩ : ∃ m, n = m + 1 := ⟨n - 1, by omega⟩
  exact leastAt_lt f m
theorem leastAt_yes {f : Nat → Int} {n : Nat} (h : f n < f (leastAt f n)) : leastAt f (n + 1) = n := if_pos h
theorem leastAt_no {f : Nat → Int} {n : Nat} (h : ¬ f n < f (leastAt f n)) : leastAt f (n + 1) = leastAt f n := if_neg h
theorem leastAt_congr {f g : Nat → Int} : ∀ {n : Nat}, (∀ i, i < n → f i = g i) → leastAt f n = leastAt g n
  | 0, _ => rfl
  | n + 1, h => by
    have ih : leastAt f n = leastAt g n := leastAt_congr (fun i hi => h i (by omega))
    show (if f n < f (leastAt f n) then n else leastAt f n) = (if g n < g (leastAt g n) then n else leastAt g n)
    have hb : f (leastAt g n) = g (leastAt g n) := by
      apply h
      by_cases hn : n = 0
      · subst hn; show 0 < 1; omega
      · have := leastAt_le g n (by omega); omega
    rw [ih, h n (by omega), hb]
/-- the hash of the key at an index -/
def hashAt (zs : List Int) (salt : Int) (i : Nat) : Int := ((hashN (zs[i]?.getD 0) salt : Nat) : Int)
def leastB (zs : List Int) (salt : Int) : Bool := keysB zs && keyB salt && decide (1 ≤ zs.length)
def leastI (zs : List Int) (salt : Int) : Int := if leastB zs salt then ((leastAt (hashAt zs salt) zs.length : Nat) : Int) else 0
def leastH (zs : List Int) (salt : Int) : Int := if leastB zs salt then hashAt zs salt (leastAt (hashAt zs salt) zs.length) else 0
theorem leastB_1 {zs : List Int} {salt : Int} (h : keysB zs = false) : leastB zs salt = false := by unfold leastB; rw [h]; rfl
theorem leastB_2 {zs : List Int} {salt : Int} (h : keyB salt = false) : leastB zs salt = false := by unfold leastB; rw [h]; simp
theorem leastB_3 {zs : List Int} {salt : Int} (h : zs.length = 0) : leastB zs salt = false := by unfold leastB; rw [h]; simp
theorem leastB_mk {zs : List Int} {salt : Int} (h1 : keysB zs = true) (h2 : keyB salt = true) (h3 : 1 ≤ zs.length) : leastB zs salt = true := by unfold leastB; rw [h1, h2, decide_eq_true h3]; rfl
theorem leastI_no {zs : List Int} {salt : Int} (h : leastB zs salt = false) : leastI zs salt = 0 := by unfold leastI; rw [h]; rfl
theorem leastH_no {zs : List Int} {salt : Int} (h : leastB zs salt = false) : leastH zs salt = 0 := by unfold leastH; rw [h]; rfl
theorem leastI_yes {zs : List Int} {salt : Int} (h : leastB zs salt = true) : leastI zs salt = ((leastAt (hashAt zs salt) zs.length : Nat) : Int) := by unfold leastI; rw [h, if_pos rfl]
theorem leastH_yes {zs : List Int} {salt : Int} (h : leastB zs salt = true) : leastH zs salt = hashAt zs salt (leastAt (hashAt zs salt) zs.length) := by unfold leastH; rw [h, if_pos rfl]
theorem c_cmpIsNaN (x : Int) (w : World) : Calls Tryd.prog 127 #[.int .i64 x] w fun e w' => e = .returned (.bool false) ∧ w = w' := by
  go_enter Tryd.func127, Tryd.ntmps127
  go_wp2
  go_ret
  exact ⟨rfl, rfl⟩
theorem c_cmpLess (x y : Int) (w : World) {b : Bool} (h : decide (x < y) = b) : Calls Tryd.prog 114 #[.int .i64 x, .int .i64 y] w fun e w' => e = .returned (.bool b) ∧ w = w' := by
  subst h
  by_cases hlt : x < y
  · go_enter Tryd.func114, Tryd.ntmps114
    go_wp2_with (go_at_call 127; refine (c_cmpIsNaN _ _).mono ?_; rintro e w' ⟨rfl, rfl⟩)
    go_ret
    exact ⟨nbool (by first | rfl | simp [hlt]), rfl⟩
  · go_enter Tryd.func114, Tryd.ntmps114
    go_wp2_with (go_at_call 127; refine (c_cmpIsNaN _ _).mono ?_; rintro e w' ⟨rfl, rfl⟩)
    go_ret
    exact ⟨nbool (by first | rfl | simp [hlt]), rfl⟩
end Go.Proofs.YtgejfeedcphfkaaDoor
