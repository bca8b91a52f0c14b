/- SampleSeen by the program: the loop ranges over a function. -/
import Derived.Test.YtplngjbllllanaaSma
import Derived.Sort.CutIn
import Derived.Deep.RegionHeld3
import Derived.Lib.SmallJoins
namespace Go.Proofs.Ytplngjbllllanaa
open Go.ChangeShapes Go.WideShapes Go.ChangeAt Go.RowKit Go.Shelf
set_option linter.unusedVariables false
attribute [local go_sem] Oper.semAt_some
theorem cell_other {w : World} {a : Addr} (x : Value) {b o : Nat} (h : b ≠ a.block) : (w.setCell a x).cell? ⟨b, o, none⟩ = w.cell? ⟨b, o, none⟩ := World.cell?_of_block (Below.heap_setCell _ _ _ _ h)
theorem box_put {w : World} {b : Nat} {t : TypeId} {x : Value} (h : Box w b t #[x]) (v : Value) : Box (w.setCell ⟨b, 0, none⟩ v) b t #[v] := Go.Joins.block_setCell h v
theorem heap_other {w : World} {a : Addr} (x : Value) {k : Nat} (h : k ≠ a.block) : (w.setCell a x).heap[k]? = w.heap[k]? := Below.heap_setCell _ _ _ _ h
theorem box_other {w : World} {b : Nat} {t : TypeId} {vs : Array Value} {a : Addr} {x : Value} (h : Box w b t vs) (hne : b ≠ a.block) : Box (w.setCell a x) b t vs := (heap_other x hne).trans h
theorem rowIs_box {w : World} {g n : Nat} {t : TypeId} {v : Value} (h : Box w g t (madeCells #[v] n)) : w.rowIs g t n (fun _ => v) := by
  obtain ⟨cs, hb, hn, hc⟩ := World.rowIs_made w v n t
  have h2 : (w.alloc (.cells (madeCells #[v] n) t)).heap[w.heap.size]? = some (.cells (madeCells #[v] n) t (0, 0)) := Box.alloc w _ t
  rw [h2] at hb
  obtain rfl : cs = madeCells #[v] n := by injection hb with hb; injection hb with e1; exact e1.symm
  exact ⟨_, h, hn, hc⟩
theorem leafZM {wb w2 : World} {lo n c2 : Nat} {a2 : Option Addr} {T I : TypeId} {row : List Int} (hn : 1 ≤ n) (x : Ext wb w2) (o : Own I w2 lo w2.heap.size a2 n c2 (ints row))  :
    ∃ gs' qs' gh' ch', Value.slice a2 n c2 = .slice (some ⟨gh', 0, none⟩) n ch' ∧ Value.pointer (some ⟨w2.heap.size, 0, none⟩) = .pointer (some ⟨qs', 0, none⟩) ∧ Box (World.drew (World.alloc (World.alloc w2 (.cells #[.slice (some ⟨w2.heap.size + 1, 0, none⟩) n n] T)) (.cells (madeCells #[.int .i64 0] n) I))) qs' T #[.slice (some ⟨gs', 0, none⟩) n n] ∧ World.rowIs (World.drew (World.alloc (World.alloc w2 (.cells #[.slice (some ⟨w2.heap.size + 1, 0, none⟩) n n] T)) (.cells (madeCells #[.int .i64 0] n) I))) gs' I n (fun _ => .int .i64 0) ∧ Reads (World.drew (World.alloc (World.alloc w2 (.cells #[.slice (some ⟨w2.heap.size + 1, 0, none⟩) n n] T)) (.cells (madeCells #[.int .i64 0] n) I))) (some ⟨gh', 0, none⟩) n (ints row) ∧ n ≤ ch' ∧ Ext wb (World.drew (World.alloc (World.alloc w2 (.cells #[.slice (some ⟨w2.heap.size + 1, 0, none⟩) n n] T)) (.cells (madeCells #[.int .i64 0] n) I))) ∧ wb.heap.size ≤ gs' ∧ wb.heap.size ≤ qs' ∧ gh' ≠ gs' ∧ gs' ≠ qs' := by
  obtain ⟨gh, fh, rfl, p1, p2, p3, p4, p5⟩ := o.rowT (by omega)
  have hx := x.size
  have kp : ∀ k, lo ≤ k → k < w2.heap.size → (World.drew (World.alloc (World.alloc w2 (.cells #[.slice (some ⟨w2.heap.size + 1, 0, none⟩) n n] T)) (.cells (madeCells #[.int .i64 0] n) I))).heap[k]? = w2.heap[k]? := fun k h1 h2 => Below.block (((Ext.refl w2).stepA _).stepA _).stepD k h2
  refine ⟨w2.heap.size + 1, w2.heap.size, gh, c2, rfl, rfl, (Box.alloc w2 _ _).past _, rowIs_box (Box.alloc_at _ _ _ (by simp)), (o.of_block (w' := World.drew (World.alloc (World.alloc w2 (.cells #[.slice (some ⟨w2.heap.size + 1, 0, none⟩) n n] T)) (.cells (madeCells #[.int .i64 0] n) I))) fun k h1 _ h3 => kp k h1 h3).reads, p4, ((x.stepA _).stepA _).stepD, by omega, by omega, by omega, by omega⟩
theorem leafMZ {wb w2 : World} {lo n c2 : Nat} {a2 : Option Addr} {T I : TypeId} {row : List Int} (hn : 1 ≤ n) (x : Ext wb w2) (o : Own I w2 lo w2.heap.size a2 n c2 (ints row))  :
    ∃ gs' qs' gh' ch', Value.slice a2 n c2 = .slice (some ⟨gh', 0, none⟩) n ch' ∧ Value.pointer (some ⟨w2.heap.size + 1, 0, none⟩) = .pointer (some ⟨qs', 0, none⟩) ∧ Box (World.drew (World.alloc (World.alloc w2 (.cells (madeCells #[.int .i64 0] n) I)) (.cells #[.slice (some ⟨w2.heap.size, 0, none⟩) n n] T))) qs' T #[.slice (some ⟨gs', 0, none⟩) n n] ∧ World.rowIs (World.drew (World.alloc (World.alloc w2 (.cells (madeCells #[.int .i64 0] n) I)) (.cells #[.slice (some ⟨w2.heap.size, 0, none⟩) n n] T))) gs' I n (fun _ => .int .i64 0) ∧ Reads (World.drew (World.alloc (World.alloc w2 (.cells (madeCells #[.int .i64 0] n) I)) (.cells #[.slice (some ⟨w2.heap.size, 0, none⟩) n n] T))) (some ⟨gh', 0, none⟩) n (ints row) ∧ n ≤ ch' ∧ Ext wb (World.drew (World.alloc (World.alloc w2 (.cells (madeCells #[.int .i64 0] n) I)) (.cells #[.slice (some ⟨w2.heap.size, 0, none⟩) n n] T))) ∧ wb.heap.size ≤ gs' ∧ wb.heap.size ≤ qs' ∧ gh' ≠ gs' ∧ gs' ≠ qs' := by
  obtain ⟨gh, fh, rfl, p1, p2, p3, p4, p5⟩ := o.rowT (by omega)
  have hx := x.size
  have kp : ∀ k, lo ≤ k → k < w2.heap.size → (World.drew (World.alloc (World.alloc w2 (.cells (madeCells #[.int .i64 0] n) I)) (.cells #[.slice (some ⟨w2.heap.size, 0, none⟩) n n] T))).heap[k]? = w2.heap[k]? := fun k h1 h2 => Below.block (((Ext.refl w2).stepA _).stepA _).stepD k h2
  refine ⟨w2.heap.size, w2.heap.size + 1, gh, c2, rfl, rfl, Box.alloc_at _ _ _ (by simp), rowIs_box ((Box.alloc w2 _ _).past _), (o.of_block (w' := World.drew (World.alloc (World.alloc w2 (.cells (madeCells #[.int .i64 0] n) I)) (.cells #[.slice (some ⟨w2.heap.size, 0, none⟩) n n] T))) fun k h1 _ h3 => kp k h1 h3).reads, p4, ((x.stepA _).stepA _).stepD, by omega, by omega, by omega, by omega⟩
theorem leafZ {wb w2 : World} {lo n c2 : Nat} {a2 : Option Addr} {T I : TypeId} {row : List Int} (hn : 1 ≤ n) (x : Ext wb w2) (o : Own I w2 lo w2.heap.size a2 n c2 (ints row)) {gs : Nat} (m : Box w2 gs I (madeCells #[.int .i64 0] n)) (g1 : wb.heap.size ≤ gs) (g2 : gs < lo) :
    ∃ gs' qs' gh' ch', Value.slice a2 n c2 = .slice (some ⟨gh', 0, none⟩) n ch' ∧ Value.pointer (some ⟨w2.heap.size, 0, none⟩) = .pointer (some ⟨qs', 0, none⟩) ∧ Box (World.drew (World.alloc w2 (.cells #[.slice (some ⟨gs, 0, none⟩) n n] T))) qs' T #[.slice (some ⟨gs', 0, none⟩) n n] ∧ World.rowIs (World.drew (World.alloc w2 (.cells #[.slice (some ⟨gs, 0, none⟩) n n] T))) gs' I n (fun _ => .int .i64 0) ∧ Reads (World.drew (World.alloc w2 (.cells #[.slice (some ⟨gs, 0, none⟩) n n] T))) (some ⟨gh', 0, none⟩) n (ints row) ∧ n ≤ ch' ∧ Ext wb (World.drew (World.alloc w2 (.cells #[.slice (some ⟨gs, 0, none⟩) n n] T))) ∧ wb.heap.size ≤ gs' ∧ wb.heap.size ≤ qs' ∧ gh' ≠ gs' ∧ gs' ≠ qs' := by
  obtain ⟨gh, fh, rfl, p1, p2, p3, p4, p5⟩ := o.rowT (by omega)
  have hx := x.size
  have kp : ∀ k, lo ≤ k → k < w2.heap.size → (World.drew (World.alloc w2 (.cells #[.slice (some ⟨gs, 0, none⟩) n n] T))).heap[k]? = w2.heap[k]? := fun k h1 h2 => Below.block ((Ext.refl w2).stepA _).stepD k h2
  refine ⟨gs, w2.heap.size, gh, c2, rfl, rfl, Box.alloc w2 _ _, rowIs_box (m.past _), (o.of_block (w' := World.drew (World.alloc w2 (.cells #[.slice (some ⟨gs, 0, none⟩) n n] T))) fun k h1 _ h3 => kp k h1 h3).reads, p4, (x.stepA _).stepD, by omega, by omega, by omega, by have := m.lt; omega⟩
theorem leafM {wb w2 : World} {lo n c2 : Nat} {a2 : Option Addr} {T I : TypeId} {row : List Int} (hn : 1 ≤ n) (x : Ext wb w2) (o : Own I w2 lo w2.heap.size a2 n c2 (ints row)) {q : Nat} {y : Value} (z : Box w2 q T #[y]) (g1 : wb.heap.size ≤ q) (g2 : q < lo) :
    ∃ gs' qs' gh' ch', Value.slice a2 n c2 = .slice (some ⟨gh', 0, none⟩) n ch' ∧ Value.pointer (some ⟨q, 0, none⟩) = .pointer (some ⟨qs', 0, none⟩) ∧ Box (World.drew (World.setCell (World.alloc w2 (.cells (madeCells #[.int .i64 0] n) I)) ⟨q, 0, none⟩ (.slice (some ⟨w2.heap.size, 0, none⟩) n n))) qs' T #[.slice (some ⟨gs', 0, none⟩) n n] ∧ World.rowIs (World.drew (World.setCell (World.alloc w2 (.cells (madeCells #[.int .i64 0] n) I)) ⟨q, 0, none⟩ (.slice (some ⟨w2.heap.size, 0, none⟩) n n))) gs' I n (fun _ => .int .i64 0) ∧ Reads (World.drew (World.setCell (World.alloc w2 (.cells (madeCells #[.int .i64 0] n) I)) ⟨q, 0, none⟩ (.slice (some ⟨w2.heap.size, 0, none⟩) n n))) (some ⟨gh', 0, none⟩) n (ints row) ∧ n ≤ ch' ∧ Ext wb (World.drew (World.setCell (World.alloc w2 (.cells (madeCells #[.int .i64 0] n) I)) ⟨q, 0, none⟩ (.slice (some ⟨w2.heap.size, 0, none⟩) n n))) ∧ wb.heap.size ≤ gs' ∧ wb.heap.size ≤ qs' ∧ gh' ≠ gs' ∧ gs' ≠ qs' := by
  obtain ⟨gh, fh, rfl, p1, p2, p3, p4, p5⟩ := o.rowT (by omega)
  have hx := x.size
  have kp : ∀ k, lo ≤ k → k < w2.heap.size → (World.drew (World.setCell (World.alloc w2 (.cells (madeCells #[.int .i64 0] n) I)) ⟨q, 0, none⟩ (.slice (some ⟨w2.heap.size, 0, none⟩) n n))).heap[k]? = w2.heap[k]? := fun k h1 h2 => (heap_other _ (by show k ≠ q; omega)).trans (Below.block (Ext.alloc w2 _) k h2)
  refine ⟨w2.heap.size, q, gh, c2, rfl, rfl, box_put (z.past _) _, rowIs_box (box_other (Box.alloc w2 _ _) (by have := z.lt; show w2.heap.size ≠ q; omega)), (o.of_block (w' := World.drew (World.setCell (World.alloc w2 (.cells (madeCells #[.int .i64 0] n) I)) ⟨q, 0, none⟩ (.slice (some ⟨w2.heap.size, 0, none⟩) n n))) fun k h1 _ h3 => kp k h1 h3).reads, p4, ((x.stepA _).stepS g1 _).stepD, by omega, by omega, by omega, by have := z.lt; omega⟩
theorem leafN {wb w2 : World} {lo n c2 : Nat} {a2 : Option Addr} {T I : TypeId} {row : List Int} (hn : 1 ≤ n) (x : Ext wb w2) (o : Own I w2 lo w2.heap.size a2 n c2 (ints row)) {q gs : Nat} {y : Value} (z : Box w2 q T #[y]) (m : Box w2 gs I (madeCells #[.int .i64 0] n)) (g1 : wb.heap.size ≤ q) (g2 : q < lo) (g3 : wb.heap.size ≤ gs) (g4 : gs < lo) (g5 : gs ≠ q) :
    ∃ gs' qs' gh' ch', Value.slice a2 n c2 = .slice (some ⟨gh', 0, none⟩) n ch' ∧ Value.pointer (some ⟨q, 0, none⟩) = .pointer (some ⟨qs', 0, none⟩) ∧ Box (World.drew (World.setCell w2 ⟨q, 0, none⟩ (.slice (some ⟨gs, 0, none⟩) n n))) qs' T #[.slice (some ⟨gs', 0, none⟩) n n] ∧ World.rowIs (World.drew (World.setCell w2 ⟨q, 0, none⟩ (.slice (some ⟨gs, 0, none⟩) n n))) gs' I n (fun _ => .int .i64 0) ∧ Reads (World.drew (World.setCell w2 ⟨q, 0, none⟩ (.slice (some ⟨gs, 0, none⟩) n n))) (some ⟨gh', 0, none⟩) n (ints row) ∧ n ≤ ch' ∧ Ext wb (World.drew (World.setCell w2 ⟨q, 0, none⟩ (.slice (some ⟨gs, 0, none⟩) n n))) ∧ wb.heap.size ≤ gs' ∧ wb.heap.size ≤ qs' ∧ gh' ≠ gs' ∧ gs' ≠ qs' := by
  obtain ⟨gh, fh, rfl, p1, p2, p3, p4, p5⟩ := o.rowT (by omega)
  have hx := x.size
  have kp : ∀ k, lo ≤ k → k < w2.heap.size → (World.drew (World.setCell w2 ⟨q, 0, none⟩ (.slice (some ⟨gs, 0, none⟩) n n))).heap[k]? = w2.heap[k]? := fun k h1 h2 => heap_other _ (by show k ≠ q; omega)
  refine ⟨gs, q, gh, c2, rfl, rfl, box_put z _, rowIs_box (box_other m (by show gs ≠ q; omega)), (o.of_block (w' := World.drew (World.setCell w2 ⟨q, 0, none⟩ (.slice (some ⟨gs, 0, none⟩) n n))) fun k h1 _ h3 => kp k h1 h3).reads, p4, (x.stepS g1 _).stepD, by omega, by omega, by omega, by omega⟩
theorem leafZMp {wb w2 : World} {lo n c2 : Nat} {a2 : Option Addr} {T I : TypeId} {row : List Int} (hn : 1 ≤ n) (x : Ext wb w2) (o : Own I w2 lo w2.heap.size a2 n c2 (ints row))  :
    ∃ gs' qs' gh' ch', Value.slice a2 n c2 = .slice (some ⟨gh', 0, none⟩) n ch' ∧ Value.pointer (some ⟨w2.heap.size, 0, none⟩) = .pointer (some ⟨qs', 0, none⟩) ∧ Box ((World.alloc (World.alloc w2 (.cells #[.slice (some ⟨w2.heap.size + 1, 0, none⟩) n n] T)) (.cells (madeCells #[.int .i64 0] n) I))) qs' T #[.slice (some ⟨gs', 0, none⟩) n n] ∧ World.rowIs ((World.alloc (World.alloc w2 (.cells #[.slice (some ⟨w2.heap.size + 1, 0, none⟩) n n] T)) (.cells (madeCells #[.int .i64 0] n) I))) gs' I n (fun _ => .int .i64 0) ∧ Reads ((World.alloc (World.alloc w2 (.cells #[.slice (some ⟨w2.heap.size + 1, 0, none⟩) n n] T)) (.cells (madeCells #[.int .i64 0] n) I))) (some ⟨gh', 0, none⟩) n (ints row) ∧ n ≤ ch' ∧ Ext wb ((World.alloc (World.alloc w2 (.cells #[.slice (some ⟨w2.heap.size + 1, 0, none⟩) n n] T)) (.cells (madeCells #[.int .i64 0] n) I))) ∧ wb.heap.size ≤ gs' ∧ wb.heap.size ≤ qs' ∧ gh' ≠ gs' ∧ gs' ≠ qs' := by
  obtain ⟨gh, fh, rfl, p1, p2, p3, p4, p5⟩ := o.rowT (by omega)
  have hx := x.size
  have kp : ∀ k, lo ≤ k → k < w2.heap.size → ((World.alloc (World.alloc w2 (.cells #[.slice (some ⟨w2.heap.size + 1, 0, none⟩) n n] T)) (.cells (madeCells #[.int .i64 0] n) I))).heap[k]? = w2.heap[k]? := fun k h1 h2 => Below.block (((Ext.refl w2).stepA _).stepA _) k h2
  refine ⟨w2.heap.size + 1, w2.heap.size, gh, c2, rfl, rfl, (Box.alloc w2 _ _).past _, rowIs_box (Box.alloc_at _ _ _ (by simp)), (o.of_block (w' := (World.alloc (World.alloc w2 (.cells #[.slice (some ⟨w2.heap.size + 1, 0, none⟩) n n] T)) (.cells (madeCells #[.int .i64 0] n) I))) fun k h1 _ h3 => kp k h1 h3).reads, p4, ((x.stepA _).stepA _), by omega, by omega, by omega, by omega⟩
theorem leafMZp {wb w2 : World} {lo n c2 : Nat} {a2 : Option Addr} {T I : TypeId} {row : List Int} (hn : 1 ≤ n) (x : Ext wb w2) (o : Own I w2 lo w2.heap.size a2 n c2 (ints row))  :
    ∃ gs' qs' gh' ch', Value.slice a2 n c2 = .slice (some ⟨gh', 0, none⟩) n ch' ∧ Value.pointer (some ⟨w2.heap.size + 1, 0, none⟩) = .pointer (some ⟨qs', 0, none⟩) ∧ Box ((World.alloc (World.alloc w2 (.cells (madeCells #[.int .i64 0] n) I)) (.cells #[.slice (some ⟨w2.heap.size, 0, none⟩) n n] T))) qs' T #[.slice (some ⟨gs', 0, none⟩) n n] ∧ World.rowIs ((World.alloc (World.alloc w2 (.cells (madeCells #[.int .i64 0] n) I)) (.cells #[.slice (some ⟨w2.heap.size, 0, none⟩) n n] T))) gs' I n (fun _ => .int .i64 0) ∧ Reads ((World.alloc (World.alloc w2 (.cells (madeCells #[.int .i64 0] n) I)) (.cells #[.slice (some ⟨w2.heap.size, 0, none⟩) n n] T))) (some ⟨gh', 0, none⟩) n (ints row) ∧ n ≤ ch' ∧ Ext wb ((World.alloc (World.alloc w2 (.cells (madeCells #[.int .i64 0] n) I)) (.cells #[.slice (some ⟨w2.heap.size, 0, none⟩) n n] T))) ∧ wb.heap.size ≤ gs' ∧ wb.heap.size ≤ qs' ∧ gh' ≠ gs' ∧ gs' ≠ qs' := by
  obtain ⟨gh, fh, rfl, p1, p2, p3, p4, p5⟩ := o.rowT (by omega)
  have hx := x.size
  have kp : ∀ k, lo ≤ k → k < w2.heap.size → ((World.alloc (World.alloc w2 (.cells (madeCells #[.int .i64 0] n) I)) (.cells #[.slice (some ⟨w2.heap.size, 0, none⟩) n n] T))).heap[k]? = w2.heap[k]? := fun k h1 h2 => Below.block (((Ext.refl w2).stepA _).stepA _) k h2
  refine ⟨w2.heap.size, w2.heap.size + 1, gh, c2, rfl, rfl, Box.alloc_at _ _ _ (by simp), rowIs_box ((Box.alloc w2 _ _).past _), (o.of_block (w' := (World.alloc (World.alloc w2 (.cells (madeCells #[.int .i64 0] n) I)) (.cells #[.slice (some ⟨w2.heap.size, 0, none⟩) n n] T))) fun k h1 _ h3 => kp k h1 h3).reads, p4, ((x.stepA _).stepA _), by omega, by omega, by omega, by omega⟩
theorem leafZp {wb w2 : World} {lo n c2 : Nat} {a2 : Option Addr} {T I : TypeId} {row : List Int} (hn : 1 ≤ n) (x : Ext wb w2) (o : Own I w2 lo w2.heap.size a2 n c2 (ints row)) {gs : Nat} (m : Box w2 gs I (madeCells #[.int .i64 0] n)) (g1 : wb.heap.size ≤ gs) (g2 : gs < lo) :
    ∃ gs' qs' gh' ch', Value.slice a2 n c2 = .slice (some ⟨gh', 0, none⟩) n ch' ∧ Value.pointer (some ⟨w2.heap.size, 0, none⟩) = .pointer (some ⟨qs', 0, none⟩) ∧ Box ((World.alloc w2 (.cells #[.slice (some ⟨gs, 0, none⟩) n n] T))) qs' T #[.slice (some ⟨gs', 0, none⟩) n n] ∧ World.rowIs ((World.alloc w2 (.cells #[.slice (some ⟨gs, 0, none⟩) n n] T))) gs' I n (fun _ => .int .i64 0) ∧ Reads ((World.alloc w2 (.cells #[.slice (some ⟨gs, 0, none⟩) n n] T))) (some ⟨gh', 0, none⟩) n (ints row) ∧ n ≤ ch' ∧ Ext wb ((World.alloc w2 (.cells #[.slice (some ⟨gs, 0, none⟩) n n] T))) ∧ wb.heap.size ≤ gs' ∧ wb.heap.size ≤ qs' ∧ gh' ≠ gs' ∧ gs' ≠ qs' := by
  obtain ⟨gh, fh, rfl, p1, p2, p3, p4, p5⟩ := o.rowT (by omega)
  have hx := x.size
  have kp : ∀ k, lo ≤ k → k < w2.heap.size → ((World.alloc w2 (.cells #[.slice (some ⟨gs, 0, none⟩) n n] T))).heap[k]? = w2.heap[k]? := fun k h1 h2 => Below.block ((Ext.refl w2).stepA _) k h2
  refine ⟨gs, w2.heap.size, gh, c2, rfl, rfl, Box.alloc w2 _ _, rowIs_box (m.past _), (o.of_block (w' := (World.alloc w2 (.cells #[.slice (some ⟨gs, 0, none⟩) n n] T))) fun k h1 _ h3 => kp k h1 h3).reads, p4, (x.stepA _), by omega, by omega, by omega, by have := m.lt; omega⟩
theorem leafMp {wb w2 : World} {lo n c2 : Nat} {a2 : Option Addr} {T I : TypeId} {row : List Int} (hn : 1 ≤ n) (x : Ext wb w2) (o : Own I w2 lo w2.heap.size a2 n c2 (ints row)) {q : Nat} {y : Value} (z : Box w2 q T #[y]) (g1 : wb.heap.size ≤ q) (g2 : q < lo) :
    ∃ gs' qs' gh' ch', Value.slice a2 n c2 = .slice (some ⟨gh', 0, none⟩) n ch' ∧ Value.pointer (some ⟨q, 0, none⟩) = .pointer (some ⟨qs', 0, none⟩) ∧ Box ((World.setCell (World.alloc w2 (.cells (madeCells #[.int .i64 0] n) I)) ⟨q, 0, none⟩ (.slice (some ⟨w2.heap.size, 0, none⟩) n n))) qs' T #[.slice (some ⟨gs', 0, none⟩) n n] ∧ World.rowIs ((World.setCell (World.alloc w2 (.cells (madeCells #[.int .i64 0] n) I)) ⟨q, 0, none⟩ (.slice (some ⟨w2.heap.size, 0, none⟩) n n))) gs' I n (fun _ => .int .i64 0) ∧ Reads ((World.setCell (World.alloc w2 (.cells (madeCells #[.int .i64 0] n) I)) ⟨q, 0, none⟩ (.slice (some ⟨w2.heap.size, 0, none⟩) n n))) (some ⟨gh', 0, none⟩) n (ints row) ∧ n ≤ ch' ∧ Ext wb ((World.setCell (World.alloc w2 (.cells (madeCells #[.int .i64 0] n) I)) ⟨q, 0, none⟩ (.slice (some ⟨w2.heap.size, 0, none⟩) n n))) ∧ wb.heap.size ≤ gs' ∧ wb.heap.size ≤ qs' ∧ gh' ≠ gs' ∧ gs' ≠ qs' := by
  obtain ⟨gh, fh, rfl, p1, p2, p3, p4, p5⟩ := o.rowT (by omega)
  have hx := x.size
  have kp : ∀ k, lo ≤ k → k < w2.heap.size → ((World.setCell (World.alloc w2 (.cells (madeCells #[.int .i64 0] n) I)) ⟨q, 0, none⟩ (.slice (some ⟨w2.heap.size, 0, none⟩) n n))).heap[k]? = w2.heap[k]? := fun k h1 h2 => (heap_other _ (by show k ≠ q; omega)).trans (Below.block (Ext.alloc w2 _) k h2)
  refine ⟨w2.heap.size, q, gh, c2, rfl, rfl, box_put (z.past _) _, rowIs_box (box_other (Box.alloc w2 _ _) (by have := z.lt; show w2.heap.size ≠ q; omega)), (o.of_block (w' := (World.setCell (World.alloc w2 (.cells (madeCells #[.int .i64 0] n) I)) ⟨q, 0, none⟩ (.slice (some ⟨w2.heap.size, 0, none⟩) n n))) fun k h1 _ h3 => kp k h1 h3).reads, p4, ((x.stepA _).stepS g1 _), by omega, by omega, by omega, by have := z.lt; omega⟩
theorem leafNp {wb w2 : World} {lo n c2 : Nat} {a2 : Option Addr} {T I : TypeId} {row : List Int} (hn : 1 ≤ n) (x : Ext wb w2) (o : Own I w2 lo w2.heap.size a2 n c2 (ints row)) {q gs : Nat} {y : Value} (z : Box w2 q T #[y]) (m : Box w2 gs I (madeCells #[.int .i64 0] n)) (g1 : wb.heap.size ≤ q) (g2 : q < lo) (g3 : wb.heap.size ≤ gs) (g4 : gs < lo) (g5 : gs ≠ q) :
    ∃ gs' qs' gh' ch', Value.slice a2 n c2 = .slice (some ⟨gh', 0, none⟩) n ch' ∧ Value.pointer (some ⟨q, 0, none⟩) = .pointer (some ⟨qs', 0, none⟩) ∧ Box ((World.setCell w2 ⟨q, 0, none⟩ (.slice (some ⟨gs, 0, none⟩) n n))) qs' T #[.slice (some ⟨gs', 0, none⟩) n n] ∧ World.rowIs ((World.setCell w2 ⟨q, 0, none⟩ (.slice (some ⟨gs, 0, none⟩) n n))) gs' I n (fun _ => .int .i64 0) ∧ Reads ((World.setCell w2 ⟨q, 0, none⟩ (.slice (some ⟨gs, 0, none⟩) n n))) (some ⟨gh', 0, none⟩) n (ints row) ∧ n ≤ ch' ∧ Ext wb ((World.setCell w2 ⟨q, 0, none⟩ (.slice (some ⟨gs, 0, none⟩) n n))) ∧ wb.heap.size ≤ gs' ∧ wb.heap.size ≤ qs' ∧ gh' ≠ gs' ∧ gs' ≠ qs' := by
  obtain ⟨gh, fh, rfl, p1, p2, p3, p4, p5⟩ := o.rowT (by omega)
  have hx := x.size
  have kp : ∀ k, lo ≤ k → k < w2.heap.size → ((World.setCell w2 ⟨q, 0, none⟩ (.slice (some ⟨gs, 0, none⟩) n n))).heap[k]? = w2.heap[k]? := fun k h1 h2 => heap_other _ (by show k ≠ q; omega)
  refine ⟨gs, q, gh, c2, rfl, rfl, box_put z _, rowIs_box (box_other m (by show gs ≠ q; omega)), (o.of_block (w' := (World.setCell w2 ⟨q, 0, none⟩ (.slice (some ⟨gs, 0, none⟩) n n))) fun k h1 _ h3 => kp k h1 h3).reads, p4, (x.stepS g1 _), by omega, by omega, by omega, by omega⟩
theorem leafMq {wb w2 : World} {lo n c2 : Nat} {a2 : Option Addr} {T I : TypeId} {row : List Int} (hn : 1 ≤ n) (x : Ext wb w2) (o : Own I w2 lo w2.heap.size a2 n c2 (ints row)) {q : Nat} {y : Value} (z : Box w2 q T #[y]) (g1 : wb.heap.size ≤ q) (g2 : q < lo) :
    ∃ gs' qs' gh' ch', Value.slice a2 n c2 = .slice (some ⟨gh', 0, none⟩) n ch' ∧ Value.pointer (some ⟨q, 0, none⟩) = .pointer (some ⟨qs', 0, none⟩) ∧ Box ((World.alloc (World.setCell w2 ⟨q, 0, none⟩ (.slice (some ⟨w2.heap.size, 0, none⟩) n n)) (.cells (madeCells #[.int .i64 0] n) I))) qs' T #[.slice (some ⟨gs', 0, none⟩) n n] ∧ World.rowIs ((World.alloc (World.setCell w2 ⟨q, 0, none⟩ (.slice (some ⟨w2.heap.size, 0, none⟩) n n)) (.cells (madeCells #[.int .i64 0] n) I))) gs' I n (fun _ => .int .i64 0) ∧ Reads ((World.alloc (World.setCell w2 ⟨q, 0, none⟩ (.slice (some ⟨w2.heap.size, 0, none⟩) n n)) (.cells (madeCells #[.int .i64 0] n) I))) (some ⟨gh', 0, none⟩) n (ints row) ∧ n ≤ ch' ∧ Ext wb ((World.alloc (World.setCell w2 ⟨q, 0, none⟩ (.slice (some ⟨w2.heap.size, 0, none⟩) n n)) (.cells (madeCells #[.int .i64 0] n) I))) ∧ wb.heap.size ≤ gs' ∧ wb.heap.size ≤ qs' ∧ gh' ≠ gs' ∧ gs' ≠ qs' := by
  obtain ⟨gh, fh, rfl, p1, p2, p3, p4, p5⟩ := o.rowT (by omega)
  have hx := x.size
  have kp : ∀ k, lo ≤ k → k < w2.heap.size → ((World.alloc (World.setCell w2 ⟨q, 0, none⟩ (.slice (some ⟨w2.heap.size, 0, none⟩) n n)) (.cells (madeCells #[.int .i64 0] n) I))).heap[k]? = w2.heap[k]? := fun k h1 h2 => (Below.block (Ext.alloc (World.setCell w2 ⟨q, 0, none⟩ (.slice (some ⟨w2.heap.size, 0, none⟩) n n)) _) k (by simpa [World.setCell] using h2)).trans (heap_other _ (by show k ≠ q; omega))
  refine ⟨w2.heap.size, q, gh, c2, rfl, rfl, (box_put z _).past _, rowIs_box (Box.alloc_at _ _ _ (by simp [World.setCell])), (o.of_block (w' := (World.alloc (World.setCell w2 ⟨q, 0, none⟩ (.slice (some ⟨w2.heap.size, 0, none⟩) n n)) (.cells (madeCells #[.int .i64 0] n) I))) fun k h1 _ h3 => kp k h1 h3).reads, p4, ((x.stepS g1 _).stepA _), by omega, by omega, by omega, by have := z.lt; omega⟩
/-- the hashes lie as they lay -/
structure HashAt (m gh n : Nat) (hz : List Int) (W : World) : Prop where
  s : m ≤ W.heap.size
  c : ∀ i, i < n → W.cell? ⟨gh, 0 + i, none⟩ = some (.int .i64 (getI hz i))
theorem HashAt.ownFrom {β : Type} {m gh n : Nat} {hz : List Int} (hg : gh < m) : OwnFrom m (fun (_ : β) W => HashAt m gh n hz W) := fun _ W W' row h hgr hr =>
  ⟨Nat.le_trans h.s hgr.size, fun i hi => by
    rw [World.cell?_of_block (w := W) (hgr.block gh (Nat.lt_of_lt_of_le hg h.s) (fun e => by have := (hr gh e.symm).1; omega))]; exact h.c i hi⟩
theorem hash_step {K1 : Prop} {m gs gh n : Nat} {hz : List Int} {W W' : World} {J : Prop} (h : K1 ∧ KpG m gs W W' ∧ J) (hh : HashAt m gh n hz W) (hg : gh < m) (ne : gh ≠ gs) : K1 ∧ KpG m gs W W' ∧ (J ∧ HashAt m gh n hz W') :=
  ⟨h.1, h.2.1, h.2.2, ⟨Nat.le_trans hh.s h.2.1.1, fun i hi => h.2.1.cell hg ne (hh.c i hi)⟩⟩
set_option maxRecDepth 100000 in
set_option maxHeartbeats 16000000 in
theorem c_SampleSeen_yes (b off n cap : Nat) (zs : List Int) (salt : Int) (w : World) (hk : stB zs = true) (hs : keyB salt = true) (hn1 : 1 ≤ n) (hn2 : n ≤ 128) (h : Reads w (some ⟨b, off, none⟩) n (ints zs)) :
    Calls Try.prog 43 #[.slice (some ⟨b, off, none⟩) n cap, .int .i64 salt] w (RetSB 2 n (ints (seenZ zs salt)) true w) := by
  have hz := h.int.1
  have hcs : ∀ i, i < n → w.cell? ⟨b, off + i, none⟩ = some (.int .i64 (getI zs i)) := by
    rcases h.int.2 with h0 | ⟨b', off', he, hc⟩
    · omega
    · cases he; exact hc
  have H := Lib.hid h
  have HK := Lib.hid hk
  have HS := Lib.hid hs
  have HMK := Lib.hid (marks_keys hn2)
  have hnI : (n : Int) ≤ 128 := by omega
  refine (callsIn_wide (n := 6)).1 ?_
  refine callsIn_of_wp_marks Try.func43 rfl trivial ?_ rfl
  simp only [Try.ntmps43, List.size_toArray, List.length_cons, List.length_nil, Nat.reduceAdd, Nat.reduceSub, Array.replicate_succ, Array.replicate_zero, List.push_toArray, List.append_toArray, List.nil_append, List.cons_append]
  have hmk := run_make_row' (P := Try.prog) 40 2 (.int .i64 0) 8 Try.underlying40 info_i64 rfl .i64 .i64 n (by omega) (by omega)
  have hmx : Try.prog.follows .mixedOrders = true := by kernel_rfl
  have BK := Lib.hid (Box.alloc w #[.slice (some ⟨b, off, none⟩) n cap] 40)
  have X0 := Lib.hid (Ext.alloc w (.cells #[.slice (some ⟨b, off, none⟩) n cap] 40))
  have bk := BK.out.cell 0
  clear h hk hs
  gi_upto_region 3 with (first | (refine ⟨trivial, ?_⟩; gi_at_call 95; refine (callsIn_wide.2 (c_impl_areStreamKeys _ _ _ zs _ HK.out (by omega) (H.out.on X0.out))).mono ?_; rintro e w' ⟨rfl, rfl⟩) | (refine ⟨trivial, ?_⟩; gi_at_call 96; refine (callsIn_wide.2 (c_impl_IsKey_at salt _ HS.out)).mono ?_; rintro e w' ⟨rfl, rfl⟩))
  obtain ⟨wb, hwb⟩ : ∃ wb, w.alloc (.cells #[.slice (some ⟨b, off, none⟩) n cap] 40) = wb := ⟨_, rfl⟩
  rw [hwb] at BK X0 bk
  rw [hwb]
  have e1 : wb.drew.heap.size + 1 = (World.alloc wb.drew (.cells (madeCells #[.int .i64 0] n) 2)).heap.size := by simp
  have BK2 := BK
  have e2 : wb.drew.heap.size + 1 = (World.alloc wb.drew (.cells #[.slice none 0 0] 40)).heap.size := by simp
  have CHK := Lib.hid (show ∀ (a : Option Addr) (cc : Nat) (wx : World), Reads wx a n (ints (marks 0 n)) → Calls Try.prog 97 #[.slice a n cc, .int .i64 salt] wx (RetS 2 n (ints (rowZ (marks 0 n) salt)) wx) from fun a cc wx hh => by
    have := c_impl_hashKeys a n cc (marks 0 n) salt wx HMK.out HS.out hh
    rw [marks_length] at this
    exact this)
  have HWB := Lib.hid (show wb.heap.size = w.heap.size + 1 by rw [← hwb]; simp)
  have bkaa := fun o o' => (BK.out.on ((Ext.alloc wb o).stepA o')).cell 0
  have bka := fun o => (BK.out.on (Ext.alloc wb o)).cell 0
  have bkd := (BK.out.on (Ext.drew wb)).cell 0
  gi_cut [6, 7] from 10 (fun s6 s7 w' => ∃ gs qs gh ch, s6 = .slice (some ⟨gh, 0, none⟩) n ch ∧ s7 = .pointer (some ⟨qs, 0, none⟩) ∧ Box w' qs 40 #[.slice (some ⟨gs, 0, none⟩) n n] ∧ w'.rowIs gs 2 n (fun _ => .int .i64 0) ∧ Reads w' (some ⟨gh, 0, none⟩) n (ints (rowZ (marks 0 n) salt)) ∧ n ≤ ch ∧ Ext wb w' ∧ wb.heap.size ≤ gs ∧ wb.heap.size ≤ qs ∧ gh ≠ gs ∧ gs ≠ qs)
  case first =>
    refine wpIn_wide.2 ?_
    refine Code.wp_mono NoPanic.imp ?_
    go_region_held3 (fun w' => w'.cell? ⟨w.heap.size, 0, none⟩ = some (.slice (some ⟨b, off, none⟩) n cap)) (first | exact b2 | exact b2a _ | exact b2aa _ _ | exact b1 | exact b1a _ | exact b1aa _ _ | exact bka _ | exact bkaa _ _ | exact (cell_other _ (by have h8 := HWB.out; show w.heap.size ≠ _; first | omega | (simp; omega))).trans b2 | exact (cell_other _ (by have h8 := HWB.out; show w.heap.size ≠ _; first | omega | (simp; omega))).trans (b2a _) | exact (cell_other _ (by have h8 := HWB.out; show w.heap.size ≠ _; first | omega | (simp; omega))).trans (b2aa _ _) | exact Ext.some (Ext.alloc _ _) ((cell_other _ (by have h8 := HWB.out; show w.heap.size ≠ _; first | omega | (simp; omega))).trans b2) | go_keep)
      (first | (go_at_call 98; refine ((c_impl_indicesBelow n _ (by omega))).mono ?_; rintro e w1 ⟨a1, c1, rfl, o1, x1⟩; have O1 := Lib.hid o1; (first | have z1 : Box w1 wb.heap.size 40 #[.slice none 0 0] := (Box.alloc wb.drew #[.slice none 0 0] 40).on x1 | have z1 : Box w1 wb.heap.size 40 #[.slice none 0 0] := ((Box.alloc wb.drew #[.slice none 0 0] 40).past (.cells (madeCells #[.int .i64 0] n) 2)).on x1 | have z1 : Box w1 (wb.heap.size + 1) 40 #[.slice none 0 0] := (Box.alloc_at (World.alloc wb.drew (.cells (madeCells #[.int .i64 0] n) 2)) #[.slice none 0 0] 40 (b := wb.drew.heap.size + 1) e1).on x1 | skip); (first | have m1 : Box w1 wb.heap.size 2 (madeCells #[.int .i64 0] n) := (Box.alloc wb.drew (madeCells #[.int .i64 0] n) 2).on x1 | have m1 : Box w1 wb.heap.size 2 (madeCells #[.int .i64 0] n) := ((Box.alloc wb.drew (madeCells #[.int .i64 0] n) 2).past (.cells #[.slice none 0 0] 40)).on x1 | have m1 : Box w1 (wb.heap.size + 1) 2 (madeCells #[.int .i64 0] n) := (Box.alloc_at (World.alloc wb.drew (.cells #[.slice none 0 0] 40)) (madeCells #[.int .i64 0] n) 2 (b := wb.drew.heap.size + 1) e2).on x1 | skip); (try have z1l := z1.lt); (try have z1c := z1.cell 0); (try have z1f := z1.frozen 0); (try have z1ac := fun o => (z1.on (Ext.alloc w1 o)).cell 0); (try have z1af := fun o => (z1.on (Ext.alloc w1 o)).frozen 0); (try have m1l := m1.lt); have XB1 := Ext.trans (show Ext wb _ by (repeat (first | assumption | exact Ext.refl _ | (with_reducible refine Ext.stepS ?_ (by first | exact Nat.le_refl _ | (simp; done) | (simp; omega)) _) | (with_reducible refine Ext.stepN ?_ _) | (with_reducible refine Ext.stepD ?_) | (with_reducible refine Ext.stepA ?_ _)))) x1; have hs1 := XB1.size; have b1 := (BK.out.on XB1).cell 0; have b1a := fun o => ((BK.out.on XB1).on (Ext.alloc w1 o)).cell 0; have b1aa := fun o o' => ((BK.out.on XB1).on ((Ext.alloc w1 o).stepA o')).cell 0; clear o1) | (go_at_call 97; refine ((CHK.out _ _ _ (O1.out.reads.on (by (repeat (first | assumption | exact Ext.refl _ | (with_reducible refine Ext.stepS ?_ (by first | exact Nat.le_refl _ | (simp; done) | (simp; omega)) _) | (with_reducible refine Ext.stepN ?_ _) | (with_reducible refine Ext.stepD ?_) | (with_reducible refine Ext.stepA ?_ _))))))).mono ?_; rintro e w2 ⟨a2, c2, rfl, o2, x2⟩; have O2 := Lib.hid o2; (first | have z2 : Box w2 w1.heap.size 40 #[.slice none 0 0] := (Box.alloc w1 #[.slice none 0 0] 40).on x2 | have z2 : Box w2 w1.heap.size 40 #[.slice none 0 0] := ((Box.alloc w1 #[.slice none 0 0] 40).past (.cells (madeCells #[.int .i64 0] n) 2)).on x2 | have z2 : Box w2 (w1.heap.size + 1) 40 #[.slice none 0 0] := (Box.alloc_at (World.alloc w1 (.cells (madeCells #[.int .i64 0] n) 2)) #[.slice none 0 0] 40 (b := w1.heap.size + 1) (by simp)).on x2 | skip); (first | have m2 : Box w2 w1.heap.size 2 (madeCells #[.int .i64 0] n) := (Box.alloc w1 (madeCells #[.int .i64 0] n) 2).on x2 | have m2 : Box w2 w1.heap.size 2 (madeCells #[.int .i64 0] n) := ((Box.alloc w1 (madeCells #[.int .i64 0] n) 2).past (.cells #[.slice none 0 0] 40)).on x2 | have m2 : Box w2 (w1.heap.size + 1) 2 (madeCells #[.int .i64 0] n) := (Box.alloc_at (World.alloc w1 (.cells #[.slice none 0 0] 40)) (madeCells #[.int .i64 0] n) 2 (b := w1.heap.size + 1) (by simp)).on x2 | skip); (try have z2l := z2.lt); (try have z2c := z2.cell 0); (try have z2f := z2.frozen 0); (try have z2ac := fun o => (z2.on (Ext.alloc w2 o)).cell 0); (try have z2af := fun o => (z2.on (Ext.alloc w2 o)).frozen 0); (try have m2l := m2.lt); have X12 := Ext.trans (show Ext w1 _ by (repeat (first | assumption | exact Ext.refl _ | (with_reducible refine Ext.stepS ?_ (by first | exact Nat.le_refl _ | (simp; done) | (simp; omega)) _) | (with_reducible refine Ext.stepN ?_ _) | (with_reducible refine Ext.stepD ?_) | (with_reducible refine Ext.stepA ?_ _)))) x2; have hs2 := X12.size; (try have z3 := z1.on X12); (try have m3 := m1.on X12); (try have z3l := z3.lt); (try have z3c := z3.cell 0); (try have z3f := z3.frozen 0); (try have z3ac := fun o => (z3.on (Ext.alloc w2 o)).cell 0); (try have z3af := fun o => (z3.on (Ext.alloc w2 o)).frozen 0); have XB2 := XB1.trans X12; have b2 := (BK.out.on XB2).cell 0; have b2a := fun o => ((BK.out.on XB2).on (Ext.alloc w2 o)).cell 0; have b2aa := fun o o' => ((BK.out.on XB2).on ((Ext.alloc w2 o).stepA o')).cell 0; clear o2))
    all_goals refine NoPanic.normal ?_
    all_goals go_wp2
    all_goals
      go_meet
      case rel =>
        first
          | with_reducible exact leafZMp hn1 XB2 O2.out
          | with_reducible exact leafMZp hn1 XB2 O2.out
          | with_reducible exact leafZp hn1 XB2 O2.out m2 (by first | omega | (simp; done) | (simp; omega)) (by first | omega | (simp; done) | (simp; omega))
          | with_reducible exact leafZp hn1 XB2 O2.out m3 (by first | omega | (simp; done) | (simp; omega)) (by first | omega | (simp; done) | (simp; omega))
          | with_reducible exact leafMq hn1 XB2 O2.out z2 (by first | omega | (simp; done) | (simp; omega)) (by first | omega | (simp; done) | (simp; omega))
          | with_reducible exact leafMq hn1 XB2 O2.out z3 (by first | omega | (simp; done) | (simp; omega)) (by first | omega | (simp; done) | (simp; omega))
          | with_reducible exact leafMp hn1 XB2 O2.out z2 (by first | omega | (simp; done) | (simp; omega)) (by first | omega | (simp; done) | (simp; omega))
          | with_reducible exact leafMp hn1 XB2 O2.out z3 (by first | omega | (simp; done) | (simp; omega)) (by first | omega | (simp; done) | (simp; omega))
          | with_reducible exact leafNp hn1 XB2 O2.out z2 m2 (by first | omega | (simp; done) | (simp; omega)) (by first | omega | (simp; done) | (simp; omega)) (by first | omega | (simp; done) | (simp; omega)) (by first | omega | (simp; done) | (simp; omega)) (by first | omega | (simp; done) | (simp; omega))
          | with_reducible exact leafNp hn1 XB2 O2.out z2 m3 (by first | omega | (simp; done) | (simp; omega)) (by first | omega | (simp; done) | (simp; omega)) (by first | omega | (simp; done) | (simp; omega)) (by first | omega | (simp; done) | (simp; omega)) (by first | omega | (simp; done) | (simp; omega))
          | with_reducible exact leafNp hn1 XB2 O2.out z3 m2 (by first | omega | (simp; done) | (simp; omega)) (by first | omega | (simp; done) | (simp; omega)) (by first | omega | (simp; done) | (simp; omega)) (by first | omega | (simp; done) | (simp; omega)) (by first | omega | (simp; done) | (simp; omega))
          | with_reducible exact leafNp hn1 XB2 O2.out z3 m3 (by first | omega | (simp; done) | (simp; omega)) (by first | omega | (simp; done) | (simp; omega)) (by first | omega | (simp; done) | (simp; omega)) (by first | omega | (simp; done) | (simp; omega)) (by first | omega | (simp; done) | (simp; omega))
          | with_reducible exact leafZM hn1 XB2 O2.out
          | with_reducible exact leafMZ hn1 XB2 O2.out
          | with_reducible exact leafZ hn1 XB2 O2.out m2 (by first | omega | (simp; done) | (simp; omega)) (by first | omega | (simp; done) | (simp; omega))
          | with_reducible exact leafZ hn1 XB2 O2.out m3 (by first | omega | (simp; done) | (simp; omega)) (by first | omega | (simp; done) | (simp; omega))
          | with_reducible exact leafM hn1 XB2 O2.out z2 (by first | omega | (simp; done) | (simp; omega)) (by first | omega | (simp; done) | (simp; omega))
          | with_reducible exact leafM hn1 XB2 O2.out z3 (by first | omega | (simp; done) | (simp; omega)) (by first | omega | (simp; done) | (simp; omega))
          | with_reducible exact leafN hn1 XB2 O2.out z2 m2 (by first | omega | (simp; done) | (simp; omega)) (by first | omega | (simp; done) | (simp; omega)) (by first | omega | (simp; done) | (simp; omega)) (by first | omega | (simp; done) | (simp; omega)) (by first | omega | (simp; done) | (simp; omega))
          | with_reducible exact leafN hn1 XB2 O2.out z2 m3 (by first | omega | (simp; done) | (simp; omega)) (by first | omega | (simp; done) | (simp; omega)) (by first | omega | (simp; done) | (simp; omega)) (by first | omega | (simp; done) | (simp; omega)) (by first | omega | (simp; done) | (simp; omega))
          | with_reducible exact leafN hn1 XB2 O2.out z3 m2 (by first | omega | (simp; done) | (simp; omega)) (by first | omega | (simp; done) | (simp; omega)) (by first | omega | (simp; done) | (simp; omega)) (by first | omega | (simp; done) | (simp; omega)) (by first | omega | (simp; done) | (simp; omega))
          | with_reducible exact leafN hn1 XB2 O2.out z3 m3 (by first | omega | (simp; done) | (simp; omega)) (by first | omega | (simp; done) | (simp; omega)) (by first | omega | (simp; done) | (simp; omega)) (by first | omega | (simp; done) | (simp; omega)) (by first | omega | (simp; done) | (simp; omega))
          | (trace_state; fail "LEAF")
  case rest =>
    obtain ⟨gs, qs, gh, ch, rfl, rfl, hbox, hrow, hrd, hch, hx, l1, l2, ne1, ne2⟩ := hcut
    have hwbs : wb.heap.size = w.heap.size + 1 := by rw [← hwb]; simp
    have hgsl := hrow.lt
    have hqsl := hbox.lt
    have XW := Lib.hid (X0.out.trans hx)
    clear bk bka bkaa bkd e1 e2 BK2 CHK
    gi_wp2_with (refine ⟨trivial, ?_⟩; gi_at_call 99; refine (callsIn_wide.2 (c_lastOnes _ _ _ _ _)).mono ?_; rintro e w' ⟨rfl, rfl⟩)
    have BS := ((Box.alloc wc #[.slice (some ⟨gh, 0, none⟩) n ch] 40).past (.cells #[.int .i64 128] 2))
    have BL := (Box.alloc_at (wc.alloc (.cells #[.slice (some ⟨gh, 0, none⟩) n ch] 40)) #[.int .i64 128] 2 (b := wc.heap.size + 1) (by simp))
    have XC : Ext wc ((wc.alloc (.cells #[.slice (some ⟨gh, 0, none⟩) n ch] 40)).alloc (.cells #[.int .i64 128] 2)) := (Ext.alloc _ _).stepA _
    have RW := (hrow.alloc (.cells #[.slice (some ⟨gh, 0, none⟩) n ch] 40)).alloc (.cells #[.int .i64 128] 2)
    obtain ⟨W5, hW5⟩ : ∃ W5, ((wc.alloc (.cells #[.slice (some ⟨gh, 0, none⟩) n ch] 40)).alloc (.cells #[.int .i64 128] 2)) = W5 := ⟨_, rfl⟩
    have hs5 : W5.heap.size = wc.heap.size + 2 := by rw [← hW5]; simp
    rw [hW5] at BS BL XC RW
    rw [hW5]
    have BT5 := hbox.on XC
    have BK5 := (BK.out.on hx).on XC
    have X5 := XW.out.trans XC
    have RH5 := (hrd.on XC).int
    have hghc : ∀ i, i < n → W5.cell? ⟨gh, 0 + i, none⟩ = some (.int .i64 (getI (rowZ (marks 0 n) salt) i)) := by
      rcases RH5.2 with h0 | ⟨b', off', he, hc⟩
      · omega
      · cases he; exact hc
    have hghl : gh < W5.heap.size := World.block_lt_of_cell? W5 ⟨gh, 0 + 0, none⟩ (hghc 0 (by omega))
    have hzl : (rowZ (marks 0 n) salt).length = n := RH5.1
    refine wpIn_rangeFunc_ownG rfl (by omega) (gf := 153) (lb := #[.pointer (some ⟨wc.heap.size, 0, none⟩), .pointer (some ⟨wc.heap.size + 1, 0, none⟩)]) rfl trivial (enters_of Try.func153 (by kernel_rfl) rfl)
      (lastOnes_stops Fence.wide 5 trivial rfl (by omega) wc.heap.size (wc.heap.size + 1) W5.heap.size gs gh 0 n ch 128 hn2 hch (by omega) (by omega) (by omega) (by omega) (by omega) (by omega) W5 (BS.cell 0) (BL.cell 0))
      (fun h k => h.trans k) (fun W l o o' hl h h1 h2 => kpG_b W l o o' hl h h1 h2) (Below.refl _ _) (fun _ => rfl)
      (fun pre W => LorI w W5.heap.size w.heap.size qs gs 2 (.slice (some ⟨b, off, none⟩) n cap) n (fun i => getI zs (leastAt (hashF salt) (i + 1))) pre W ∧ HashAt W5.heap.size gh n (rowZ (marks 0 n) salt) W) (fun _ _ _ => False)
      (OwnFrom.and (LorI.ownFrom (by omega) (by omega) (by omega) (by omega)) (HashAt.ownFrom hghl)) (fun _ _ _ _ _ hs _ _ => hs)
      ⟨⟨Nat.le_refl _, BK5.cell 0, BT5.cell 0, RW.congr fun i hi => by unfold contF; rfl, X5⟩, ⟨Nat.le_refl _, hghc⟩⟩
      (fun x => { tmps := #[.slice (some ⟨b, off, none⟩) n cap, .int .i64 salt, .pointer (some ⟨w.heap.size, 0, none⟩), undef, .slice none 0 0, .bool false, .slice (some ⟨gh, 0, none⟩) n ch, .pointer (some ⟨qs, 0, none⟩), .int .i64 (x.1 : Int), lastV gh 0 128 x.1, u10, u11, u12, u13, u14, u15, u16, u17, u18, u19, u20, u21, u22, u23, u24, u25, .slice (some ⟨gh, 0, none⟩) n ch, .func (.func 153) #[] #[.pointer (some ⟨wc.heap.size, 0, none⟩), .pointer (some ⟨wc.heap.size + 1, 0, none⟩)], .int .i64 (x.1 : Int), lastV gh 0 128 x.1, u30, u31, u32, u33, u34, u35, u36, u37, u38], defers := [] }) ?assign ?body ?done ?stop
    case assign =>
      intro l x W K hK
      unfold lastE
      gi_wp2
      exact hK
    case body =>
      rintro l pre x W ⟨hI, hH⟩ _
      have a1 := hI.a
      have a2 := hI.ts
      have a3 := hI.r.cell x.2
      have a4 := hI.r.frozen x.1
      have hx3 : x.1 < n := x.2
      have hxn : (x.1 : Int) < (n : Int) := by have := x.2; omega
      have hx0 : (0 : Int) ≤ (x.1 : Int) := by omega
      have e0 : x.1 + 1 - 128 = 0 := by omega
      obtain ⟨lz, hlz⟩ : ∃ lz, lastZ (rowZ (marks 0 n) salt) 128 x.1 = lz := ⟨_, rfl⟩
      have hrd9 := reads_last hzl (fun i hi => hH.c i hi) 128 x.1 x.2
      rw [hlz, e0, Nat.add_zero, Nat.sub_zero] at hrd9
      have HRD := Lib.hid (show Reads W (some ⟨gh, 0, none⟩) (x.1 + 1) (ints lz) from hrd9)
      obtain ⟨m, hm⟩ : ∃ m, leastAt (hashF salt) (x.1 + 1) = m := ⟨_, rfl⟩
      have hmx1 : m < x.1 + 1 := by rw [← hm]; exact leastAt_le _ _ (by omega)
      have HV := Lib.hid (show leastAt (fun i => lz[i]?.getD 0) (x.1 + 1) = m by
        rw [← hm, ← hlz]
        refine leastAt_congr fun i hi => ?_
        have h9 := lastZ_get (rowZ (marks 0 n) salt) 128 x.1 i (by omega)
        rw [e0, Nat.zero_add] at h9
        exact h9.trans (hashF_row (by omega)))
      have hck := Ext.some hI.b (hcs m (by omega))
      obtain ⟨v, hv⟩ : ∃ v, getI zs m = v := ⟨_, rfl⟩
      rw [hv] at hck
      have HVV := Lib.hid (show getI zs (leastAt (hashF salt) (x.1 + 1)) = v by rw [hm, hv])
      have hmI : (m : Int) < (n : Int) := by omega
      have hm0 : (0 : Int) ≤ (m : Int) := by omega
      have HI := Lib.hid hI
      have HH := Lib.hid hH
      have HLI := Lib.hid (show gs ≠ gh from fun e => ne1 e.symm)
      clear hm hv hI hH hlz hrd9
      unfold lastV
      simp only [e0, Nat.add_zero, Nat.sub_zero]
      clear e0
      gi_wp2
      gi_region_with_o (refine ⟨trivial, ?_⟩; gi_at_call 100; refine (CallsIn.inRound l (callsIn_wide.2 (c_firstLeast _ _ _ _ _ (by omega) (by omega) (HRD.out.on (by (repeat (first | assumption | exact Ext.refl _ | (with_reducible refine Ext.stepS ?_ (by first | exact Nat.le_refl _ | (simp; done) | (simp; omega)) _) | (with_reducible refine Ext.stepN ?_ _) | (with_reducible refine Ext.stepD ?_) | (with_reducible refine Ext.stepA ?_ _)))))))).mono ?_; rw [HV.out]; rintro e w' ⟨rfl, rfl⟩)
      all_goals gi_wp2
      all_goals (try go_bits)
      all_goals
        clear a1 a2 a3 a4 HRD hmx
        have st := fun (W1 : World) (X : Ext W W1) => hash_step (LorI.step (by omega) (by omega) (by omega) (by omega) (by omega) (by omega) HI.out x X HVV.out) HH.out hghl ne1
        first | exact st _ (Ext.refl _) | exact st _ (Ext.drew _) | exact st _ (Ext.drewN _ _) | exact st _ ((Ext.drew _).trans (Ext.drew _))
    case done =>
      rintro D ys W hD rfl ⟨hI, _⟩ hK
      have a2 := hI.ts
      gi_wp2
      refine ⟨by simp, .inl ⟨_, _, rfl, run_takeDeferred hK, ?_⟩⟩
      have hDg : gs < D := by omega
      have hgb := (grownBy_putObj' W D (Obj.deferred none)).block gs hI.r.lt (fun e => by cases e; omega)
      have hrow := hI.r.of_block hgb
      have hExt : Ext w (W.putObj D (Obj.deferred none)) := hI.b.grown (grownBy_putObj' W D _) (Below.size hI.b) (fun k e => by cases e; omega)
      exact ⟨_, results_tmp2 rfl _ _ _, some ⟨gs, 0, none⟩, n, rfl, own_made (by rw [ints_length, seenZ_length]; exact hz) (by omega) hrow (fun i hi => by
        rw [ints_get _ i (by rw [seenZ_length]; omega), contF_all n _ i hi]
        have := seenZ_get zs salt i (by omega)
        rw [this]), hExt⟩
    case stop =>
      rintro D c pre W _ _ h _
      exact h.elim
end Go.Proofs.Ytplngjbllllanaa
