/- slices.Concat of two lists; append of a whole slice. -/
import Derived.Test.YtplngjbllllanaaDoorLdj
import Derived.Laws.AppendOwnNone
namespace Go.Proofs.YtplngjbllllanaaDoor
open Go.ChangeShapes Go.WideShapes Go.ChangeAt Go.RowKit Go.Shelf
set_option linter.unusedVariables false
/-- a slice without a row has no room -/
def SlN (a : Option Addr) (n cap : Nat) : Prop := a = none → n = 0 ∧ cap = 0
theorem Own.sln {t : TypeId} {w : World} {lo hi n c : Nat} {a : Option Addr} {vs : List Value} (h : Own t w lo hi a n c vs) : SlN a n c := by
  intro ha
  subst ha
  rcases h.2.2 with ⟨_, h1⟩ | ⟨g, f, h1, _⟩
  · exact ⟨by have := h.2.1; omega, h1⟩
  · cases h1
theorem Reads.news' {w : World} {b off n : Nat} {vs : List Value} (h : Reads w (some ⟨b, off, none⟩) n vs) : ∀ j u, vs[j]? = some u → w.cell? ((⟨b, off, none⟩ : Addr).add j) = some u := by
  intro j u hj
  have hj' := (List.getElem?_eq_some_iff.1 hj).1
  rw [h.1] at hj'
  rcases h.2 with h0 | ⟨b', off', he, hc⟩
  · omega
  · cases he
    have e : (⟨b, off, none⟩ : Addr).add j = ⟨b, off + j, none⟩ := by unfold Addr.add; split <;> simp_all
    rw [e, hc j hj', hj]
theorem ints_one' (zs : List Int) : ∀ u ∈ ints zs, u.oneCell' = true := by
  intro u hu; obtain ⟨x, _, rfl⟩ := List.mem_map.1 hu; rfl
theorem ints_app (xs ys : List Int) : ints (xs ++ ys) = ints xs ++ ints ys := by unfold ints; rw [List.map_append]
theorem heap_new (w : World) (C : Array Value) (t : TypeId) : (w.drew.alloc (.cells C t)).heap[w.heap.size]? = some (.cells C t) := by
  show (w.heap.push (.cells C t))[w.heap.size]? = _
  simp
theorem zeroCells_size (n : Nat) : (Builtin.zeroCells (Value.int .i64 0).cells n).size = n := by unfold Builtin.zeroCells; simp [Value.cells]
/-- append(own, whole...) -/
theorem wpList_append_spread {P : Program} {w0 w : World} {ops : Array Oper} {rest : List Oper} {o : Oper} {a : Act} {Q : Exit → Act → World → Prop} (hgd : o.guard = none) (s x : Operand) (t : TypeId)
    (ho : o.op = .call { callee := .builtin .append, args := #[s, x], argTypes := #[t, t] })
    (e : TypeId) (i : TypeInfo) (z : Value) (ht : P.underlying t = some (.slice e)) (hi : P.info? e = some i) (hz : i.zero = some z) (hsize : i.size = 1) (hby : i.bytes = 8) (hzs : z.cells.size = 1)
    (v : Value) (n : Nat) (xs : List Value) (hs : a.eval s = v) (hE : Ext w0 w) (hown : w.ownsRow w0.heap.size e 1 v n xs)
    (b : Option Addr) (m c : Nat) (ys : List Int) (hx : a.eval x = .slice b m c) (hsl : SlN b m c) (hr : Reads w b m (ints ys)) (hnm : n + m ≤ 2097152)
    (h : ∀ v' w', w'.ownsRow w0.heap.size e 1 v' (n + m) (xs ++ ints ys) → Ext w0 w' → wpList P ops Q rest (a.put o.dst v') w') : wpList P ops Q (o :: rest) a w := by
  cases b with
  | none =>
    obtain ⟨rfl, rfl⟩ := hsl rfl
    have hy : ys = [] := List.eq_nil_of_length_eq_zero (by have := hr.1; rwa [ints_length] at this)
    subst hy
    refine wpList_append_own_none hgd s x t ho w0.heap.size e i 1 ht hi v n xs hs hown hx (h v w ?_ hE)
    rw [Nat.add_zero, show ints [] = [] from rfl, List.append_nil]; exact hown
  | some ad =>
    refine wpList_append_own w hgd s x t ho w0.heap.size e i z 1 8 ht hi hz hsize hby hzs (by decide) v n xs hs hown ad m c (ints ys) hx (by rw [Nat.mul_one]; exact hr.1) ?_ (ints_one' ys) (by unfold maxLen; omega) (by omega) hE.size fun v' w' h1 h2 _ => h v' w' h1 (Below.grown hE h2 hE.size fun j hj => (hown.lt j hj).1)
    intro j u hj
    have hj' := (List.getElem?_eq_some_iff.1 hj).1
    rw [hr.1] at hj'
    rcases hr.2 with h0 | ⟨b, off, hb, _⟩
    · omega
    · cases hb; exact hr.news' j u hj
theorem c_Grow_new (n : Nat) (w : World) (hn : n ≤ 2097152) :
    Calls Tryd.prog 36 #[.slice none 0 0, .int .i64 n] w fun e w' => ∃ v, e = .returned v ∧ w'.ownsRow w.heap.size 2 1 v 0 [] ∧ Ext w w' := by
  by_cases h0 : n = 0
  · subst h0
    have hc := Any8.slices_Grow_room Sh.laysGrow none 0 0 0 w (by omega) (by omega) (by omega) (by omega)
    change Calls Tryd.prog 36 _ _ _ at hc
    refine hc.mono ?_
    rintro e w' ⟨rfl, rfl⟩
    exact ⟨_, rfl, ⟨rfl, .inl ⟨rfl, rfl⟩⟩, Ext.refl _⟩
  · obtain ⟨i0, hi, hz0, hz1, hz2⟩ := info_parts info_i64
    have hc := Any8.slices_Grow_grow Sh.laysGrow i0 (.int .i64 0) hi hz0 (by rw [hz1]; decide) none 0 0 n [] w (by omega) (by omega) (by rw [hz2]; omega) (by omega) (by simp) (by simp) (by simp)
    change Calls Tryd.prog 36 _ _ _ at hc
    refine hc.mono ?_
    rintro e w' ⟨rfl, rfl⟩
    have h1 := grownCap_ge w (0 + n) 0 2
    have h2 := grownCap_le_maxLen w (0 + n) 0 2 (by unfold maxLen; omega)
    refine ⟨_, rfl, ⟨rfl, .inr ⟨w.heap.size, _, _, rfl, Nat.le_refl _, heap_new w _ _, Nat.zero_le _, h2, ?_, by simp⟩⟩, (Ext.drew w).stepA _⟩
    rw [Array.size_append, Array.size_append, zeroCells_size, zeroCells_size]
    have h3 : (#[] : Array Value).size = 0 := rfl
    show 0 + (0 + n - 0) + (grownCap w (0 + n) 0 2 - (0 + n)) = grownCap w (0 + n) 0 2 * 1
    omega
end Go.Proofs.YtplngjbllllanaaDoor
