/- LeastHashes by the other side: numbers put in one after the other. -/
import Derived.Test.YtplngjbllllanaaLdi
import Derived.Test.YtplngjbllllanaaKin
import Derived.Deep.RegionWith
import Derived.Deep.LoopGhost
namespace Go.Proofs.Ytplngjbllllanaa
open Go.ChangeShapes Go.WideShapes Go.ChangeAt Go.RowKit
set_option linter.unusedVariables false
theorem owns_parts {w : World} {base n : Nat} {t : TypeId} {v : Value} {xs : List Value} (h : w.ownsRow base t 1 v n xs) :
    (v = .slice none 0 0 ∧ n = 0) ∨ ∃ g c f, v = .slice (some ⟨g, 0, none⟩) n c ∧ base ≤ g ∧ n ≤ c ∧ c ≤ maxLen ∧ w.rowIs g t c f ∧ ∀ i, i < n → xs[i]? = some (f i) := by
  rcases h.2 with h0 | ⟨g, cap, cur, rfl, hb, hg, hn, hm, hs, ht⟩
  · exact .inl h0
  · refine .inr ⟨g, cap, fun i => cur[i]?.getD default, rfl, hb, hn, hm, ⟨cur, hg, by simpa using hs, fun i hi => ?_⟩, fun i hi => ?_⟩
    · have : i < cur.size := by omega
      show cur[i]? = some (cur[i]?.getD default)
      rw [Array.getElem?_eq_getElem this]; rfl
    · have : i < cur.size := by omega
      show xs[i]? = some (cur[i]?.getD default)
      rw [← ht, List.getElem?_take, if_pos (by omega), Array.getElem?_toList, Array.getElem?_eq_getElem this]; rfl
theorem owns_of_row {w : World} {base g c n : Nat} {t : TypeId} {f : Nat → Value} {xs : List Value} (hr : w.rowIs g t c f) (hb : base ≤ g) (hn : n ≤ c) (hc : c ≤ maxLen) (hx : xs.length = n) (hf : ∀ i, i < n → xs[i]? = some (f i)) :
    w.ownsRow base t 1 (.slice (some ⟨g, 0, none⟩) n c) n xs := by
  obtain ⟨cs, h1, h2, h3⟩ := hr
  refine ⟨by omega, .inr ⟨g, c, cs, rfl, hb, h1, hn, hc, by omega, ?_⟩⟩
  apply List.ext_getElem?
  intro i
  rw [Nat.mul_one, List.getElem?_take]
  by_cases hi : i < n
  · rw [if_pos hi, Array.getElem?_toList, h3 i (by omega), hf i hi]
  · rw [if_neg hi, List.getElem?_eq_none (by omega)]
theorem owns_on {w w' : World} {base n : Nat} {t : TypeId} {v : Value} {xs : List Value} (h : w.ownsRow base t 1 v n xs) (e : Ext w w') : w'.ownsRow base t 1 v n xs := by
  refine ⟨h.1, ?_⟩
  rcases h.2 with h0 | ⟨g, cap, cur, rfl, hb, hg, rest⟩
  · exact .inl h0
  · exact .inr ⟨g, cap, cur, rfl, hb, by rw [Below.block e g (Array.getElem?_eq_some_iff.1 hg).1]; exact hg, rest⟩
/-- how many at the front lie below a number -/
def belowC (x : Int) : List Int → Nat
  | [] => 0
  | y :: ys => if y < x then belowC x ys + 1 else 0
theorem belowC_yes {x y : Int} {ys : List Int} (h : y < x) : belowC x (y :: ys) = belowC x ys + 1 := if_pos h
theorem belowC_no {x y : Int} {ys : List Int} (h : ¬ y < x) : belowC x (y :: ys) = 0 := if_neg h
theorem belowC_le (x : Int) : ∀ L : List Int, belowC x L ≤ L.length
  | [] => Nat.le_refl _
  | y :: ys => by
    have := belowC_le x ys
    by_cases h : y < x
    · rw [belowC_yes h, List.length_cons]; omega
    · rw [belowC_no h]; exact Nat.zero_le _
theorem belowC_lo (x : Int) : ∀ (L : List Int) (i : Nat), i < belowC x L → getI L i < x
  | [], i, h => absurd h (Nat.not_lt_zero _)
  | y :: ys, i, h => by
    by_cases hy : y < x
    · rw [belowC_yes hy] at h
      cases i with
      | zero => exact hy
      | succ i => exact belowC_lo x ys i (by omega)
    · rw [belowC_no hy] at h; exact absurd h (Nat.not_lt_zero _)
theorem belowC_hi (x : Int) : ∀ L : List Int, belowC x L < L.length → x ≤ getI L (belowC x L)
  | [], h => absurd h (Nat.not_lt_zero _)
  | y :: ys, h => by
    by_cases hy : y < x
    · rw [belowC_yes hy] at h ⊢
      exact belowC_hi x ys (by rw [List.length_cons] at h; omega)
    · rw [belowC_no hy]; show x ≤ y; omega
theorem belowC_take (x : Int) (L : List Int) : ∀ y ∈ L.take (belowC x L), y < x := by
  intro y hy
  obtain ⟨i, hi, rfl⟩ := List.getElem_of_mem hy
  rw [List.length_take] at hi
  rw [List.getElem_take]
  have := belowC_lo x L i (by omega)
  unfold getI at this
  rwa [List.getElem?_eq_getElem (by omega)] at this
theorem belowC_drop {x : Int} {L : List Int} (hs : L.Pairwise (fun a b => a < b)) (hne : belowC x L < L.length → getI L (belowC x L) ≠ x) : ∀ y ∈ L.drop (belowC x L), x < y := by
  intro y hy
  obtain ⟨i, hi, rfl⟩ := List.getElem_of_mem hy
  rw [List.length_drop] at hi
  rw [List.getElem_drop]
  have hp : belowC x L < L.length := by omega
  have h1 := belowC_hi x L hp
  have h2 := hne hp
  unfold getI at h1 h2
  rw [List.getElem?_eq_getElem hp] at h1 h2
  simp only [Option.getD_some] at h1 h2
  have h3 := List.pairwise_iff_getElem.1 hs
  by_cases e : i = 0
  · subst e; simp only [Nat.add_zero]; omega
  · have := h3 (belowC x L) (belowC x L + i) hp (by omega) (by omega); omega
/-- the row while numbers are moved up: below j as it was, above j moved up by one -/
structure UpTo (L : List Int) (j : Nat) (M : List Int) : Prop where
  n : M.length = L.length + 1
  lo : ∀ i, i < j → getI M i = getI L i
  hi : ∀ i, j < i → i ≤ L.length → getI M i = getI L (i - 1)
theorem getI_set (M : List Int) (k i : Nat) (v : Int) (hk : k < M.length) : getI (M.set k v) i = if i = k then v else getI M i := by
  unfold getI
  rw [List.getElem?_set]
  by_cases e : k = i
  · subst e; rw [if_pos rfl, if_pos rfl, if_pos hk]; rfl
  · rw [if_neg e, if_neg (Ne.symm e)]
theorem UpTo.start (L : List Int) (y : Int) : UpTo L L.length (L ++ [y]) :=
  ⟨by simp, fun i hi => by unfold getI; rw [List.getElem?_append_left hi], fun i h1 h2 => by omega⟩
theorem UpTo.step {L M : List Int} {j : Nat} (h : UpTo L (j + 1) M) (hj : j + 1 ≤ L.length) : UpTo L j (M.set (j + 1) (getI M j)) := by
  refine ⟨by rw [List.length_set]; exact h.n, fun i hi => ?_, fun i h1 h2 => ?_⟩
  · rw [getI_set _ _ _ _ (by rw [h.n]; omega), if_neg (by omega)]; exact h.lo i (by omega)
  · rw [getI_set _ _ _ _ (by rw [h.n]; omega)]
    by_cases e : i = j + 1
    · rw [if_pos e, e, h.lo j (by omega)]; rfl
    · rw [if_neg e]; exact h.hi i (by omega) h2
theorem UpTo.put {L M : List Int} {p : Nat} {x : Int} (h : UpTo L p M) (hp : p ≤ L.length) : M.set p x = L.take p ++ x :: L.drop p := by
  apply List.ext_getElem?
  intro i
  have hl : (L.take p ++ x :: L.drop p).length = L.length + 1 := by rw [List.length_append, List.length_cons, List.length_take, List.length_drop]; omega
  by_cases hi : i < L.length + 1
  · have h1 : getI (M.set p x) i = getI (L.take p ++ x :: L.drop p) i := by
      rw [getI_set _ _ _ _ (by rw [h.n]; omega)]
      by_cases e : i = p
      · rw [if_pos e, e]; unfold getI; rw [List.getElem?_append_right (by rw [List.length_take]; omega)]
        rw [show p - (L.take p).length = 0 by rw [List.length_take]; omega]; rfl
      · rw [if_neg e]
        by_cases g : i < p
        · rw [h.lo i g]; unfold getI; rw [List.getElem?_append_left (by rw [List.length_take]; omega), List.getElem?_take_of_lt g]
        · rw [h.hi i (by omega) (by omega)]; unfold getI
          rw [List.getElem?_append_right (by rw [List.length_take]; omega), show i - (L.take p).length = (i - 1 - p) + 1 by rw [List.length_take]; omega, List.getElem?_cons_succ, List.getElem?_drop, show p + (i - 1 - p) = i - 1 by omega]
    unfold getI at h1
    rw [List.getElem?_eq_getElem (by rw [List.length_set, h.n]; omega), List.getElem?_eq_getElem (by omega)] at h1 ⊢
    simpa using h1
  · rw [List.getElem?_eq_none (by rw [List.length_set, h.n]; omega), List.getElem?_eq_none (by omega)]
theorem leastD_snoc (q : Nat) (zs : List Int) (k : Nat) (hk : k < zs.length) {x : Int} (hx : getI zs k = x) : leastD q (zs.take (k + 1)) = leastD q (zs.take k ++ [x]) := by
  rw [List.take_succ_eq_append_getElem hk]
  unfold getI at hx
  rw [List.getElem?_eq_getElem hk] at hx
  simp only [Option.getD_some] at hx
  rw [hx]
theorem touch1 {w u : World} {g : Nat} (h : Touch g (g + 1) w u) (i : Nat) (v : Value) : Touch g (g + 1) w (u.setCell ⟨g, i, none⟩ v) := h.trans (Touch.setCell _ (a := ⟨g, i, none⟩) (Nat.le_refl _) (Nat.lt_succ_self _) _)
theorem one_cell_dr (w : World) (o : Value) (t : TypeId) (n : Nat) : ∀ (j : Nat) (u : Value), [o][j]? = some u → ((w.drewN n).alloc (.cells #[o] t)).cell? ⟨w.heap.size, j, none⟩ = some u := by
  intro j u hj
  cases j with
  | zero => exact one_cell_at (w.drewN n) o t 0 u hj
  | succ j => simp at hj
theorem ints_snoc1 (L : List Int) (y : Int) : ints (L ++ [y]) = ints L ++ [.int .i64 y] := by unfold ints; rw [List.map_append]; rfl
end Go.Proofs.Ytplngjbllllanaa
