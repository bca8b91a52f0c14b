/- slices.Sort and slices.Compact over a row of the call's own. -/
import Derived.Test.YtplngjbllllanaaDoorLsd
import Derived.Test.YtplngjbllllanaaDoorLcl
import Derived.Test.YtplngjbllllanaaDoorSrt
namespace Go.Proofs.YtplngjbllllanaaDoor
open Go.ChangeShapes Go.WideShapes Go.ChangeAt Go.RowKit Go.Sort Go.Shelf
set_option linter.unusedVariables false
theorem putRow_heap {α : Type} [Inhabited α] (enc : α → Value) (w : World) (g off : Nat) (d : Array α) (k : Nat) (h : k ≠ g) : (putRow enc w g off d).heap[k]? = w.heap[k]? := by
  unfold putRow mapBlock
  simp only [Array.getElem?_modify]
  rw [if_neg (Ne.symm h)]
theorem putRow_rowIs {w : World} {g c : Nat} {t : TypeId} {f : Nat → Value} (h : w.rowIs g t c f) (d : List Int) : (putRow (Value.int .i64) w g 0 d.toArray).rowIs g t c (rowT d f) := by
  obtain ⟨cs, hb, hn, hc⟩ := h
  refine ⟨putCells (Value.int .i64) 0 d.toArray cs, ?_, by unfold putCells; simpa using hn, fun i hi => ?_⟩
  · unfold putRow mapBlock
    simp only [Array.getElem?_modify, if_true, hb]; rfl
  · unfold putCells rowT
    rw [Array.getElem?_mapIdx, hc i hi]
    by_cases h1 : i < d.length
    · simp [h1]
    · simp [h1]
theorem touch_sort {w : World} {g n : Nat} {d : Array Int} {os : Array Obj} : Touch g (g + 1) w (grow (putRow (Value.int .i64) (Sort.ahead w n) g 0 d) os) :=
  ⟨rfl, rfl, rfl, by simp [Sort.ahead], fun k hk hr => by
    rw [heap_grow_old _ _ (by simpa [Sort.ahead] using hk), putRow_heap _ _ _ _ _ _ (by omega)]; rfl⟩
theorem rowIs_grow {w : World} {g c : Nat} {t : TypeId} {f : Nat → Value} (h : w.rowIs g t c f) (os : Array Obj) : (grow w os).rowIs g t c f := h.of_block (heap_grow_old w os h.lt)
theorem rowIs_ahead {w : World} {g c : Nat} {t : TypeId} {f : Nat → Value} (h : w.rowIs g t c f) (n : Nat) : (Sort.ahead w n).rowIs g t c f := h.of_block rfl
theorem holds_own {w : World} {g c : Nat} {t : TypeId} {f : Nat → Value} {zs : List Int} (h : w.rowIs g t c f) (hc : zs.length ≤ c) (hf : ∀ i, i < zs.length → (ints zs)[i]? = some (f i)) : Holds (Value.int .i64) w g 0 zs.toArray := by
  intro j hj
  have hj' : j < zs.length := by simpa using hj
  refine ⟨?_, h.frozen _⟩
  rw [Nat.zero_add, h.cell (by omega), ← hf j hj', ints_get zs j hj']
  simp [hj']
theorem rowT_ints (zs : List Int) (f : Nat → Value) (i : Nat) (h : i < zs.length) : (ints zs)[i]? = some (rowT zs f i) := by
  rw [ints_get zs i h]; unfold rowT; rw [if_pos h]
theorem Own.cut {t : TypeId} {w : World} {lo hi n c m : Nat} {a : Option Addr} {zs : List Int} (h : Own t w lo hi a n c (ints zs)) (hm : m ≤ n) : Own t w lo hi a m c (ints (zs.take m)) := by
  have hl := h.1
  rw [ints_length] at hl
  refine ⟨by rw [ints_length, List.length_take]; omega, by have := h.2.1; omega, ?_⟩
  rcases h.2.2 with h0 | ⟨g, f, h1, h2, h3, h4, h5⟩
  · exact .inl h0
  · refine .inr ⟨g, f, h1, h2, h3, h4, fun i hi => ?_⟩
    rw [← h5 i (by omega)]
    unfold ints; rw [List.getElem?_map, List.getElem?_map, List.getElem?_take_of_lt hi]
theorem sortZ_nil : sortZ [] = [] := List.eq_nil_of_length_eq_zero (sortZ_length [])
theorem compact_nil : Lib.compact ([] : List Int) = [] := rfl
theorem c_Sort (lo hi : Nat) (a : Option Addr) (n cap : Nat) (zs : List Int) (w : World) (hn : n ≤ 1048576) (h : Own 2 w lo hi a n cap (ints zs)) :
    Calls Tryd.prog 41 #[.slice a n cap] w fun e w' => e = .returned (.tuple #[]) ∧ Own 2 w' lo hi a n cap (ints (sortZ zs)) ∧ Touch lo hi w w' := by
  have hl := h.1
  rw [ints_length] at hl
  subst hl
  rcases h.2.2 with ⟨rfl, h1⟩ | ⟨g, f, rfl, h1, h2, h3, h4⟩
  · have h0 : zs = [] := List.eq_nil_of_length_eq_zero (by have := h.2.1; omega)
    subst h0
    have hc := AnyG.slices_Sort_int_none Sh.laysSort none cap w
    change Calls Tryd.prog 41 _ _ _ at hc
    refine hc.mono ?_
    rintro e w' ⟨rfl, rfl⟩
    exact ⟨rfl, by rw [sortZ_nil]; exact h, Touch.refl _ _ _⟩
  · have hc := AnyG.slices_Sort_int Sh.laysSort g 0 cap zs w (holds_own h3 h.2.1 h4) h3.lt (by omega)
    change Calls Tryd.prog 41 _ _ _ at hc
    refine hc.mono ?_
    rintro e w' ⟨rfl, m, os, rfl⟩
    refine ⟨rfl, ⟨by rw [ints_length, sortZ_length], h.2.1, .inr ⟨g, _, rfl, h1, h2, rowIs_grow (putRow_rowIs (rowIs_ahead h3 m) (sortZ zs)) os, fun i hi => rowT_ints _ _ _ (by rw [sortZ_length]; exact hi)⟩⟩, touch_sort.wide h1 (by omega)⟩
theorem c_Compact (lo hi : Nat) (a : Option Addr) (n cap : Nat) (zs : List Int) (w : World) (hn : n ≤ 1048576) (h : Own 2 w lo hi a n cap (ints zs)) :
    Calls Tryd.prog 27 #[.slice a n cap] w fun e w' => e = .returned (.slice a (Lib.compact zs).length cap) ∧ Own 2 w' lo hi a (Lib.compact zs).length cap (ints (Lib.compact zs)) ∧ Touch lo hi w w' := by
  have hl := h.1
  rw [ints_length] at hl
  subst hl
  have hle := Lib.compact_length_le zs
  by_cases h0 : zs = []
  · subst h0
    have hc := AnyG.slices_Compact_int_empty Sh.laysCompact a cap w
    change Calls Tryd.prog 27 _ _ _ at hc
    refine hc.mono ?_
    rintro e w' ⟨rfl, rfl⟩
    exact ⟨rfl, h, Touch.refl _ _ _⟩
  · have hpos : 0 < zs.length := Nat.pos_of_ne_zero (fun e => h0 (List.eq_nil_of_length_eq_zero e))
    rcases h.2.2 with ⟨rfl, h1⟩ | ⟨g, f, rfl, h1, h2, h3, h4⟩
    · have := h.2.1; omega
    · have hc := AnyG.slices_Compact_int Sh.laysCompact g 0 cap zs w (holds_own h3 h.2.1 h4) (by omega) h.2.1
      change Calls Tryd.prog 27 _ _ _ at hc
      refine hc.mono ?_
      rintro e w' ⟨rfl, m, rfl⟩
      have hr := putRow_rowIs (rowIs_ahead h3 m) (Lib.compact zs ++ List.replicate (zs.length - (Lib.compact zs).length) 0)
      have ht : Touch g (g + 1) w (putRow (Value.int .i64) (Sort.ahead w m) g 0 (Lib.compact zs ++ List.replicate (zs.length - (Lib.compact zs).length) 0).toArray) := by
        have := touch_sort (w := w) (g := g) (n := m) (d := (Lib.compact zs ++ List.replicate (zs.length - (Lib.compact zs).length) 0).toArray) (os := #[])
        rwa [grow_empty] at this
      refine ⟨rfl, ⟨ints_length _, by have := h.2.1; omega, .inr ⟨g, _, rfl, h1, h2, hr, fun i hi => ?_⟩⟩, ht.wide h1 (by omega)⟩
      rw [ints_get _ _ hi]; unfold rowT; rw [if_pos (by rw [List.length_append]; omega), List.getElem?_append_left hi]
end Go.Proofs.YtplngjbllllanaaDoor
