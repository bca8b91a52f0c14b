/- Arrays of Booleans, compared. -/
import Derived.Laws.StructEq
import Derived.Laws.Cover3
import Derived.WalkKit
namespace Go.Proofs.Ytibldgcfplpdkaa
open Go
set_option linter.unusedVariables false
theorem run_part_bool {P : Program} {e : TypeId} (ha : ∀ w, (isAgg e).run P w = .ok false w) {xs : Array Value} {i : Nat} {v : Value} (hx : xs[i]? = some v) (w : World) : (part e xs i).run P w = .ok v w := by
  simp [part, ha, hx]
theorem run_bools_list {P : Program} (d : Nat) (e : TypeId) (xs ys : Array Value) (f g : Nat → Bool) (he : P.underlying e = some .bool) (ha : ∀ w, (isAgg e).run P w = .ok false w) : ∀ (l : List Nat) (w : World), (∀ i ∈ l, xs[i]? = some (.bool (f i))) → (∀ i ∈ l, ys[i]? = some (.bool (g i))) →
    Sem.run P (forIn l ((none : Option Bool), ()) fun i __s => do
            let a ← part e xs i
            let b ← part e ys i
            let r ← Op.equalIn (d + 1) e a b
            if (!r) = true then pure (ForInStep.done (some false, ())) else pure (ForInStep.yield (none, ()))) w = .ok (if l.all (fun i => f i == g i) then (none, ()) else (some false, ())) w
  | [], w, _, _ => by simp
  | i :: l, w, hx, hy => by
    have h1 := hx i (by simp)
    have h2 := hy i (by simp)
    have ih := run_bools_list d e xs ys f g he ha l w (fun j hj => hx j (by simp [hj])) (fun j hj => hy j (by simp [hj]))
    simp only [List.forIn_cons, Sem.run_bind, run_part_bool ha h1, run_part_bool ha h2, Result.andThen_ok, run_equalIn_bool w d e _ _ he]
    cases hfg : (f i == g i)
    · simp [hfg]
    · simp only [Bool.not_true, Bool.false_eq_true, if_false, Sem.run_pure, Result.andThen_ok]
      rw [ih]
      simp [hfg]
theorem run_equalIn_bools {P : Program} (w : World) (d : Nat) (t e : TypeId) (n : Nat) (xs ys : Array Value) (f g : Nat → Bool) (ht : P.underlying t = some (.array n e)) (he : P.underlying e = some .bool)
    (hs : ∀ w, (sizeOf e).run P w = .ok 1 w) (ha : ∀ w, (isAgg e).run P w = .ok false w) (hx : ∀ i, i < n → xs[i]? = some (.bool (f i))) (hy : ∀ i, i < n → ys[i]? = some (.bool (g i))) :
    (Op.equalIn (d + 2) t (.agg xs) (.agg ys)).run P w = .ok (decide (∀ i, i < n → f i = g i)) w := by
  rw [Op.equalIn]
  simp only [Sem.run_bind, run_underlying ht, Result.andThen_ok, hs, Nat.mul_one]
  simp only [Std.Legacy.Range.forIn_eq_forIn_range', Std.Legacy.Range.size, Nat.sub_zero, Nat.add_sub_cancel, Nat.div_one]
  rw [run_bools_list d e xs ys f g he ha _ w (fun i hi => hx i (by simpa using hi)) (fun i hi => hy i (by simpa using hi))]
  simp only [Result.andThen_ok]
  have e1 : ((List.range' 0 n).all fun i => f i == g i) = decide (∀ i, i < n → f i = g i) := by
    rw [Bool.eq_iff_iff]
    simp [List.all_eq_true]
  rw [e1]
  by_cases hq : ∀ i, i < n → f i = g i
  · rw [decide_eq_true hq]; simp
  · rw [decide_eq_false hq]; simp
theorem run_neq_bools {P : Program} (w : World) (t e : TypeId) (n : Nat) (xs ys : Array Value) (f g : Nat → Bool) (ht : P.underlying t = some (.array n e)) (he : P.underlying e = some .bool)
    (hs : ∀ w, (sizeOf e).run P w = .ok 1 w) (ha : ∀ w, (isAgg e).run P w = .ok false w) (hx : ∀ i, i < n → xs[i]? = some (.bool (f i))) (hy : ∀ i, i < n → ys[i]? = some (.bool (g i))) :
    (binOp .neq t (.agg xs) (.agg ys)).run P w = .ok (.bool (!decide (∀ i, i < n → f i = g i))) w := by
  rw [run_neq_struct, show (10000 : Nat) = 9998 + 2 from rfl, run_equalIn_bools w 9998 t e n xs ys f g ht he hs ha hx hy]
  rfl
end Go.Proofs.Ytibldgcfplpdkaa
