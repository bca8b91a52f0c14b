/- A stable sort by blocks: rows of one-cell elements in memory. Plain. -/
import Derived.Test.YtfbapbgiegploaaSmh
import Derived.Test.YtfbapbgiegploaaOwn
namespace Go.Proofs.Ytfbapbgiegploaa.Smg
open Go Go.RowKit Go.Proofs.Ytfbapbgiegploaa
set_option linter.unusedVariables false
section
variable {α : Type} {enc : α → Value}
/-- a row whose first n cells are the elements g -/
def rowG (enc : α → Value) (n : Nat) (g : Nat → α × Nat) (f : Nat → Value) (i : Nat) : Value := if i < n then enc (g i).1 else f i
theorem rowG_at {n i : Nat} {g : Nat → α × Nat} {f : Nat → Value} (h : i < n) : rowG enc n g f i = enc (g i).1 := if_pos h
theorem rowG_swap {n c b i j : Nat} {t : TypeId} {g : Nat → α × Nat} {f : Nat → Value} {w : World} {x y : α} (h : w.rowIs b t c (rowG enc n g f)) (hi : i < n) (hj : j < n) (hx : (g i).1 = x) (hy : (g j).1 = y) (hne : i ≠ j) :
    ((w.setCell ⟨b, i, none⟩ (enc y)).setCell ⟨b, j, none⟩ (enc x)).rowIs b t c (rowG enc n (swapF g i j) f) := by
  refine ((h.set i (enc y)).set j (enc x)).congr fun k hk => ?_
  unfold rowG swapF
  by_cases h1 : k = j
  · subst h1
    rw [if_pos rfl, if_pos hj, if_neg (fun e => hne e.symm), if_pos rfl, hx]
  · rw [if_neg h1]
    by_cases h2 : k = i
    · subst h2
      rw [if_pos rfl, if_pos hi, if_pos rfl, hy]
    · rw [if_neg h2, if_neg h2, if_neg h1]
theorem touch1 {w u : World} {g : Nat} (h : Touch g (g + 1) w u) (i : Nat) (v : Value) : Touch g (g + 1) w (u.setCell ⟨g, i, none⟩ v) := h.trans (Touch.setCell _ (a := ⟨g, i, none⟩) (Nat.le_refl _) (Nat.lt_succ_self _) _)
theorem touchN {lo hi : Nat} {w u : World} (h : Touch lo hi w u) (n : Nat) : Touch lo hi w (u.drewN n) := h.trans (Touch.of_ext (Ext.drewN _ _) _ _)
theorem touchE {lo hi : Nat} {w u v : World} (h : Touch lo hi w u) (e : Ext u v) : Touch lo hi w v := h.trans (Touch.of_ext e _ _)
theorem rowD {w : World} {b n : Nat} {t : TypeId} {f : Nat → Value} (h : w.rowIs b t n f) (k : Nat) : (w.drewN k).rowIs b t n f := h.of_block (by rfl)
theorem rowE {w u : World} {b n : Nat} {t : TypeId} {f : Nat → Value} (h : w.rowIs b t n f) (e : Ext w u) : u.rowIs b t n f := h.of_block (Below.block e b h.lt)
/-- what a comparison answers -/
def cmpG (le : α → α → Bool) (x y : α) : Int := if le y x = false then -1 else if le x y = false then 1 else 0
theorem cmpG_lt {le : α → α → Bool} {x y : α} (h : le y x = false) : cmpG le x y = -1 := if_pos h
theorem cmpG_ge {le : α → α → Bool} {x y : α} (h : le y x = true) : 0 ≤ cmpG le x y := by
  unfold cmpG
  rw [if_neg (by rw [h]; decide)]
  split <;> decide
/-- a comparison that tells the order of two elements, wherever only the row has changed -/
def CmpOk (P : Program) (le : α → α → Bool) (Q : α → Prop) (fn : FuncId) (args : α → α → Array Value) (g : Nat) (w : World) : Prop :=
  ∀ u, Touch g (g + 1) w u → ∀ x y v, Q x → Q y → cmpG le x y = v → Calls P fn (args x y) u fun e u' => e = .returned (.int .i64 v) ∧ ∃ q, u' = u.drewN q
theorem CmpOk.on {P : Program} {le : α → α → Bool} {Q : α → Prop} {fn : FuncId} {args : α → α → Array Value} {g : Nat} {w u : World} (h : CmpOk P le Q fn args g w) (t : Touch g (g + 1) w u) : CmpOk P le Q fn args g u := fun v tv => h v (t.trans tv)
/-- what a call says of a row: shuffled within bounds, the rest of the memory kept -/
def RetG (enc : α → Value) (t : TypeId) (blk c n : Nat) (f : Nat → Value) (R : (Nat → α × Nat) → Prop) (w : World) (e : Ending) (w' : World) : Prop :=
  ∃ g, e = .returned (.tuple #[]) ∧ w'.rowIs blk t c (rowG enc n g f) ∧ R g ∧ Touch blk (blk + 1) w w'
/-- a row of elements as a list of values -/
def valsG (enc : α → Value) (g : Nat → α × Nat) (n : Nat) : List Value := (List.range n).map fun i => enc (g i).1
theorem valsG_length (g : Nat → α × Nat) (n : Nat) : (valsG enc g n).length = n := by simp [valsG]
theorem valsG_get (g : Nat → α × Nat) (n i : Nat) (h : i < n) : (valsG enc g n)[i]? = some (enc (g i).1) := by simp [valsG, h]
theorem valsG_snoc (g : Nat → α × Nat) (n : Nat) : valsG enc g (n + 1) = valsG enc g n ++ [enc (g n).1] := by simp [valsG, List.range_succ]
theorem valsG_fst (g : Nat → α × Nat) (n : Nat) : valsG enc g n = ((rowL g n).map Prod.fst).map enc := by simp [valsG, rowL]
theorem owns_rowG {w : World} {t : TypeId} {b lo n c : Nat} {g : Nat → α × Nat} {f : Nat → Value} (hc : n ≤ c) (hm : c ≤ maxLen) (hb : lo ≤ b) (h : w.rowIs b t c (rowG enc n g f)) : w.ownsRow lo t 1 (.slice (some ⟨b, 0, none⟩) n c) n (valsG enc g n) := by
  obtain ⟨cur, h1, h2, h3⟩ := h
  refine ⟨by rw [valsG_length, Nat.mul_one], .inr ⟨b, c, cur, rfl, hb, h1, hc, hm, by rw [h2, Nat.mul_one], ?_⟩⟩
  rw [Nat.mul_one]
  apply List.ext_getElem?
  intro i
  rw [List.getElem?_take]
  by_cases hi : i < n
  · rw [if_pos hi, valsG_get g n i hi]
    have := h3 i (by omega)
    rw [rowG_at hi] at this
    rw [Array.getElem?_toList]
    exact this
  · rw [if_neg hi, List.getElem?_eq_none (by rw [valsG_length]; omega)]
theorem rowG_owns {w : World} {t : TypeId} {lo n : Nat} {v : Value} {g : Nat → α × Nat} (h : w.ownsRow lo t 1 v n (valsG enc g n)) (hn : 0 < n) : ∃ b c f, v = .slice (some ⟨b, 0, none⟩) n c ∧ lo ≤ b ∧ n ≤ c ∧ c ≤ maxLen ∧ w.rowIs b t c (rowG enc n g f) := by
  obtain ⟨_, h0 | ⟨b, c, cur, rfl, hb, h1, hc, hm, hs, ht⟩⟩ := h
  · omega
  rw [Nat.mul_one] at hs ht
  refine ⟨b, c, fun i => cur[i]?.getD default, rfl, hb, hc, hm, cur, h1, hs, fun i hi => ?_⟩
  unfold rowG
  by_cases hn' : i < n
  · rw [if_pos hn']
    have h2 := valsG_get (enc := enc) g n i hn'
    rw [← ht, List.getElem?_take, if_pos hn', Array.getElem?_toList] at h2
    exact h2
  · rw [if_neg hn']
    have h4 : i < cur.size := by omega
    show cur[i]? = some (cur[i]?.getD default)
    rw [Array.getElem?_eq_getElem h4]; rfl
theorem own_valsG {w : World} {t : TypeId} {lo n : Nat} {v : Value} {g : Nat → α × Nat} (h : w.ownsRow lo t 1 v n (valsG enc g n)) : ∃ a c, v = .slice a n c ∧ Own t w lo w.heap.size a n c (valsG enc g n) := Own.of_row (e := 0) h
end
end Go.Proofs.Ytfbapbgiegploaa.Smg
