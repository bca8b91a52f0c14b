/- Windows whose two lists grow in a struct of the call's own: where they lie. -/
import Derived.Test.YtplngjbllllanaaWka
import Derived.Test.YtplngjbllllanaaWnd
import Derived.Deep.AppendLies
import Derived.Deep.RegionHeld3
import Derived.Deep.DeepCutAuto
import Derived.BigQuiet
import Derived.RegionTactic
import Derived.BigRegion
import Derived.Outline
namespace Go.Proofs.Ytplngjbllllanaa
open Go.ChangeShapes Go.WideShapes Go.ChangeAt Go.RowKit
set_option linter.unusedVariables false
theorem getI_app (zs : List Int) (x : Int) (j : Nat) : getI (zs ++ [x]) j = if j = zs.length then x else getI zs j := by
  unfold getI
  by_cases h : j < zs.length
  · rw [List.getElem?_append_left h, if_neg (by omega)]
  · by_cases e : j = zs.length
    · subst e; rw [if_pos rfl, List.getElem?_append_right (Nat.le_refl _), Nat.sub_self]; rfl
    · rw [if_neg e, List.getElem?_eq_none (by rw [List.length_append, List.length_singleton]; omega), List.getElem?_eq_none (by omega)]
/-- .. and a row in another block -/
theorem owns_far {w w' : World} {base n : Nat} {t : TypeId} {v : Value} {xs : List Value} (h : w.ownsRow base t 1 v n xs) (e : ∀ j, v.ownBlock = some j → w'.heap[j]? = w.heap[j]?) : w'.ownsRow base t 1 v n xs := by
  refine ⟨h.1, ?_⟩
  rcases h.2 with h0 | ⟨g, cap, cur, rfl, hb, hg, rest⟩
  · exact .inl h0
  · exact .inr ⟨g, cap, cur, rfl, hb, by rw [e g rfl]; exact hg, rest⟩
/-- a row and a struct are no one block -/
theorem owns_box {w : World} {base n q : Nat} {t tb : TypeId} {v : Value} {xs : List Value} {vs : Array Value} (hne : tb ≠ t) (h : w.ownsRow base t 1 v n xs) (b : Box w q tb vs) : ∀ j, v.ownBlock = some j → j ≠ q := by
  intro j hj e
  subst e
  rcases h.2 with ⟨rfl, _⟩ | ⟨g, cap, cur, rfl, hb, hg, rest⟩
  · cases hj
  · cases hj
    have hb' : w.heap[g]? = some (.cells vs tb (0, 0)) := b
    rw [hg] at hb'
    cases hb'
    exact hne rfl
def ApartV (v u : Value) : Prop := ∀ j, v.ownBlock = some j → u.ownBlock ≠ some j
theorem ApartV.symm {v u : Value} (h : ApartV v u) : ApartV u v := fun j hj hk => h j hk hj
/-- a window in a block of the call's own -/
structure WkAt (T I : TypeId) (lo : Nat) (w : World) (q : Nat) (L P : Int) (ts zs : List Int) (v1 v2 : Value) : Prop where
  b : Box w q T #[.int .i64 L, .int .i64 P, v1, v2]
  o1 : w.ownsRow lo I 1 v1 ts.length (ints ts)
  o2 : w.ownsRow lo I 1 v2 zs.length (ints zs)
  p12 : ApartV v1 v2
  ql : lo ≤ q
  s : lo ≤ w.heap.size
variable {T I : TypeId} {lo : Nat} {w w' : World} {q : Nat} {L P : Int} {ts zs : List Int} {v1 v2 : Value}
theorem WkAt.on (h : WkAt T I lo w q L P ts zs v1 v2) (e : Ext w w') : WkAt T I lo w' q L P ts zs v1 v2 :=
  ⟨h.b.on e, owns_far h.o1 (fun j hj => Below.block e j (h.o1.lt j hj).2), owns_far h.o2 (fun j hj => Below.block e j (h.o2.lt j hj).2), h.p12, h.ql, Nat.le_trans h.s e.size⟩
theorem box_far {t : TypeId} {vs : Array Value} (h : Box w q t vs) (e : w'.heap[q]? = w.heap[q]?) : Box w' q t vs := e.trans h
/-- blocks but one -/
theorem heap_set {a : Addr} (x : Value) {k : Nat} (h : k ≠ a.block) : (w.setCell a x).heap[k]? = w.heap[k]? := Below.heap_setCell _ _ _ _ h
theorem below_set {w0 : World} (h : Below lo w0 w) {a : Addr} (ha : lo ≤ a.block) (x : Value) : Below lo w0 (w.setCell a x) := h.setCell ha x
/-- a time more: the row has grown, then the struct's cell is written -/
theorem WkAt.app1 (hTI : T ≠ I) {o : Obj} {key : Int} {g c : Nat} {w1 : World} (h : WkAt T I lo w q L P ts zs v1 v2) (ho : w1.ownsRow lo I 1 (.slice (some ⟨g, 0, none⟩) (ts.length + 1) c) (ts.length + 1) (ints ts ++ [.int .i64 key]))
    (hg : (w.alloc o).grownBy w1 v1.ownBlock) (hat9 : v1.ownBlock = some g ∨ g = (w.alloc o).heap.size) :
    Box w1 q T #[.int .i64 L, .int .i64 P, v1, v2] ∧ WkAt T I lo (w1.setCell ⟨q, 2, none⟩ (.slice (some ⟨g, 0, none⟩) (ts.length + 1) c)) q L P (ts ++ [key]) zs (.slice (some ⟨g, 0, none⟩) (ts.length + 1) c) v2 := by
  have hat : v1.ownBlock = some g ∨ g = w.heap.size + 1 := hat9.imp id (fun e => by simpa using e)
  have hs : w1.heap.size ≥ w.heap.size + 1 := by have := hg.size; simpa using this
  have hq := h.b.lt
  have kp : ∀ k, k < w.heap.size → v1.ownBlock ≠ some k → w1.heap[k]? = w.heap[k]? := fun k hk hne => by
    rw [hg.block k (by simp; omega) (Ne.symm hne)]; exact Below.heap_alloc _ _ _ hk
  have hb : Box w1 q T #[.int .i64 L, .int .i64 P, v1, v2] := box_far h.b (kp q hq fun e => owns_box hTI h.o1 h.b q e rfl)
  have ho2 := owns_far h.o2 fun j hj => kp j (h.o2.lt j hj).2 (fun e => h.p12 j e hj)
  have gq : g ≠ q := owns_box hTI ho hb g rfl
  have ap2 : ∀ j, v2.ownBlock = some j → j ≠ g := fun j hj e => by
    subst e
    rcases hat with h1 | h1
    · exact h.p12 j h1 hj
    · have := (h.o2.lt j hj).2; omega
  refine ⟨hb, ?_⟩
  refine ⟨(hb.putK 2 (.slice (some ⟨g, 0, none⟩) (ts.length + 1) c)), ?_, owns_far ho2 fun j hj => heap_set _ (fun e => owns_box hTI ho2 hb j hj e), fun j hj hk => ?_, h.ql, by have := h.s; simp [World.setCell]; omega⟩
  · rw [List.length_append, List.length_singleton, show ints (ts ++ [key]) = ints ts ++ [.int .i64 key] by unfold ints; rw [List.map_append]; rfl]
    exact owns_far ho fun j hj => by cases hj; exact heap_set _ gq
  · cases hj; exact ap2 g hk rfl
theorem WkAt.app2 (hTI : T ≠ I) {o : Obj} {key : Int} {g c : Nat} {w1 : World} (h : WkAt T I lo w q L P ts zs v1 v2) (ho : w1.ownsRow lo I 1 (.slice (some ⟨g, 0, none⟩) (zs.length + 1) c) (zs.length + 1) (ints zs ++ [.int .i64 key]))
    (hg : (w.alloc o).grownBy w1 v2.ownBlock) (hat9 : v2.ownBlock = some g ∨ g = (w.alloc o).heap.size) :
    Box w1 q T #[.int .i64 L, .int .i64 P, v1, v2] ∧ WkAt T I lo (w1.setCell ⟨q, 3, none⟩ (.slice (some ⟨g, 0, none⟩) (zs.length + 1) c)) q L P ts (zs ++ [key]) v1 (.slice (some ⟨g, 0, none⟩) (zs.length + 1) c) := by
  have hat : v2.ownBlock = some g ∨ g = w.heap.size + 1 := hat9.imp id (fun e => by simpa using e)
  have hs : w1.heap.size ≥ w.heap.size + 1 := by have := hg.size; simpa using this
  have hq := h.b.lt
  have kp : ∀ k, k < w.heap.size → v2.ownBlock ≠ some k → w1.heap[k]? = w.heap[k]? := fun k hk hne => by
    rw [hg.block k (by simp; omega) (Ne.symm hne)]; exact Below.heap_alloc _ _ _ hk
  have hb : Box w1 q T #[.int .i64 L, .int .i64 P, v1, v2] := box_far h.b (kp q hq fun e => owns_box hTI h.o2 h.b q e rfl)
  have ho1 := owns_far h.o1 fun j hj => kp j (h.o1.lt j hj).2 (fun e => h.p12 j hj e)
  have gq : g ≠ q := owns_box hTI ho hb g rfl
  have ap1 : ∀ j, v1.ownBlock = some j → j ≠ g := fun j hj e => by
    subst e
    rcases hat with h1 | h1
    · exact h.p12 j hj h1
    · have := (h.o1.lt j hj).2; omega
  refine ⟨hb, ?_⟩
  refine ⟨(hb.putK 3 (.slice (some ⟨g, 0, none⟩) (zs.length + 1) c)), owns_far ho1 fun j hj => heap_set _ (fun e => owns_box hTI ho1 hb j hj e), ?_, fun j hj hk => ?_, h.ql, by have := h.s; simp [World.setCell]; omega⟩
  · rw [List.length_append, List.length_singleton, show ints (zs ++ [key]) = ints zs ++ [.int .i64 key] by unfold ints; rw [List.map_append]; rfl]
    exact owns_far ho fun j hj => by cases hj; exact heap_set _ gq
  · cases hk; exact ap1 g hj rfl
/-- one time and one size more -/
theorem WkAt.own2 (h : WkAt T I lo w q L P ts zs v1 v2) :
    ∃ a1 c1 a2 c2, v1 = .slice a1 ts.length c1 ∧ v2 = .slice a2 zs.length c2 ∧ Own I w lo w.heap.size a1 ts.length c1 (ints ts) ∧ Own I w lo w.heap.size a2 zs.length c2 (ints zs) ∧ Apart a1 a2 := by
  obtain ⟨a1, c1, rfl, ho1⟩ := Own.of_row (e := 0) h.o1
  obtain ⟨a2, c2, rfl, ho2⟩ := Own.of_row (e := 0) h.o2
  refine ⟨a1, c1, a2, c2, rfl, rfl, ho1, ho2, fun x y hx hy e => ?_⟩
  subst hx; subst hy
  exact h.p12 x.block rfl (by rw [e]; rfl)
theorem below_app {lo q k : Nat} {w0 w w1 : World} {o : Obj} {v : Value} (h : Below lo w0 w) (hs : lo ≤ w.heap.size) (hg : (w.alloc o).grownBy w1 v.ownBlock) (hv : ∀ j, v.ownBlock = some j → lo ≤ j) (hq : lo ≤ q) (u : Value) : Below lo w0 (w1.setCell ⟨q, k, none⟩ u) :=
  Below.setCell (p := ⟨q, k, none⟩) ((Below.alloc h hs o).grown hg (by simp; omega) hv) hq u
theorem one_cell_at2 (w : World) (o : Value) (t : TypeId) {b : Nat} (hb : w.heap.size = b) : ∀ (j : Nat) (u : Value), [o][j]? = some u → (w.alloc (.cells #[o] t)).cell? ((⟨b, 0, none⟩ : Addr).add j) = some u := by subst hb; exact one_cell_at w o t
end Go.Proofs.Ytplngjbllllanaa
