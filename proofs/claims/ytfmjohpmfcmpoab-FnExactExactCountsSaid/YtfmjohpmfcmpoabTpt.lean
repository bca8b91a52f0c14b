/- Tops that a key is put into: plain facts; where they lie. -/
import Derived.Test.YtfmjohpmfcmpoabTpd
import Derived.Test.YtfmjohpmfcmpoabChc
import Derived.Test.YtfmjohpmfcmpoabLdj
namespace Go.Proofs.Ytfmjohpmfcmpoab
open Go.ChangeShapes Go.WideShapes Go.ChangeAt Go.RowKit
set_option linter.unusedVariables false
/-- a key more -/
def putT (R : Int) (ks cs es : List Int) (key : Int) : List Int × List Int × List Int :=
  if findL ks key < ks.length then (ks, cs.set (findL ks key) (getI cs (findL ks key) + 1), es)
  else if (ks.length : Int) < R then (ks ++ [key], cs ++ [1], es ++ [0])
  else (ks.set (lowTo (getI cs) cs.length) key, cs.set (lowTo (getI cs) cs.length) (getI cs (lowTo (getI cs) cs.length) + 1), es.set (lowTo (getI cs) cs.length) (getI cs (lowTo (getI cs) cs.length)))
theorem putT_in {R : Int} {ks cs es : List Int} {key : Int} (h : findL ks key < ks.length) : putT R ks cs es key = (ks, cs.set (findL ks key) (getI cs (findL ks key) + 1), es) := if_pos h
theorem putT_room {R : Int} {ks cs es : List Int} {key : Int} (h : ¬ findL ks key < ks.length) (h' : (ks.length : Int) < R) : putT R ks cs es key = (ks ++ [key], cs ++ [1], es ++ [0]) := by unfold putT; rw [if_neg h, if_pos h']
theorem putT_full {R : Int} {ks cs es : List Int} {key : Int} (h : ¬ findL ks key < ks.length) (h' : ¬ (ks.length : Int) < R) : putT R ks cs es key = (ks.set (lowTo (getI cs) cs.length) key, cs.set (lowTo (getI cs) cs.length) (getI cs (lowTo (getI cs) cs.length) + 1), es.set (lowTo (getI cs) cs.length) (getI cs (lowTo (getI cs) cs.length))) := by unfold putT; rw [if_neg h, if_neg h']
/-- what the walks need of tops -/
structure TopsIn (R : Int) (ks cs es : List Int) (B : Int) : Prop where
  lo : 1 ≤ R
  hi : R ≤ 32
  le : (ks.length : Int) ≤ R
  c : cs.length = ks.length
  e : es.length = ks.length
  v : ∀ i, i < ks.length → 0 ≤ getI cs i ∧ getI cs i ≤ B
theorem getI_setT (zs : List Int) (i j : Nat) (x : Int) (hi : i < zs.length) : getI (zs.set i x) j = if j = i then x else getI zs j := by
  unfold getI; rw [List.getElem?_set]
  by_cases e : i = j
  · subst e; rw [if_pos rfl, if_pos rfl, if_pos hi]; rfl
  · rw [if_neg e, if_neg (Ne.symm e)]
theorem getI_app (zs : List Int) (x : Int) (j : Nat) : getI (zs ++ [x]) j = if j = zs.length then x else getI zs j := by
  unfold getI
  by_cases h : j < zs.length
  · rw [List.getElem?_append_left h, if_neg (by omega)]
  · by_cases e : j = zs.length
    · subst e; rw [if_pos rfl, List.getElem?_append_right (Nat.le_refl _), Nat.sub_self]; rfl
    · rw [if_neg e, List.getElem?_eq_none (by rw [List.length_append, List.length_singleton]; omega), List.getElem?_eq_none (by omega)]
theorem TopsIn.put {R : Int} {ks cs es : List Int} {B key : Int} {ks' cs' es' : List Int} (h : TopsIn R ks cs es B) (hB : 0 ≤ B) (hp : putT R ks cs es key = (ks', cs', es')) : TopsIn R ks' cs' es' (B + 1) := by
  by_cases h1 : findL ks key < ks.length
  · rw [putT_in h1] at hp
    cases hp
    refine ⟨h.lo, h.hi, h.le, by rw [List.length_set]; exact h.c, h.e, fun i hi => ?_⟩
    have hv := h.v i hi
    have hf := h.v _ h1
    rw [getI_setT cs _ _ _ (by rw [h.c]; exact h1)]
    split <;> omega
  · by_cases h2 : (ks.length : Int) < R
    · rw [putT_room h1 h2] at hp
      cases hp
      refine ⟨h.lo, h.hi, by rw [List.length_append, List.length_singleton]; omega, by rw [List.length_append, List.length_append, h.c]; rfl, by rw [List.length_append, List.length_append, h.e]; rfl, fun i hi => ?_⟩
      rw [List.length_append, List.length_singleton] at hi
      rw [getI_app]
      split
      · omega
      · have hv := h.v i (by have := h.c; omega); omega
    · rw [putT_full h1 h2] at hp
      cases hp
      have hlt : lowTo (getI cs) cs.length < cs.length := lowTo_lt _ _ (by have := h.c; have := h.lo; omega)
      refine ⟨h.lo, h.hi, by rw [List.length_set]; exact h.le, by rw [List.length_set, List.length_set]; exact h.c, by rw [List.length_set, List.length_set]; exact h.e, fun i hi => ?_⟩
      rw [List.length_set] at hi
      have hv := h.v i hi
      have hf := h.v (lowTo (getI cs) cs.length) (by have := h.c; omega)
      rw [getI_setT cs _ _ _ hlt]
      split <;> omega
/-- a row that is written at one place -/
theorem owns_set {w : World} {base n g c : Nat} {t : TypeId} {zs : List Int} {i : Nat} {x : Int} (h : w.ownsRow base t 1 (.slice (some ⟨g, 0, none⟩) n c) n (ints zs)) (hz : zs.length = n) (hi : i < n) :
    (w.setCell ⟨g, i, none⟩ (.int .i64 x)).ownsRow base t 1 (.slice (some ⟨g, 0, none⟩) n c) n (ints (zs.set i x)) := by
  rcases owns_parts h with ⟨h0, _⟩ | ⟨g', c', f, he, hb, hn, hc, hr, hf⟩
  · cases h0
  · cases he
    refine owns_of_row (hr.set i (.int .i64 x)) hb hn hc (by rw [ints_length, List.length_set]; exact hz) fun j hj => ?_
    have h1 := hf j hj
    rw [ints_get _ j (by omega)] at h1
    rw [ints_get _ j (by rw [List.length_set]; omega), List.getElem?_set]
    by_cases e : i = j
    · subst e; rw [if_pos rfl, if_pos (by omega), if_pos rfl]; rfl
    · rw [if_neg e, if_neg (Ne.symm e)]; exact h1
/-- .. and a row in another block -/
theorem owns_far {w w' : World} {base n : Nat} {t : TypeId} {v : Value} {xs : List Value} (h : w.ownsRow base t 1 v n xs) (e : ∀ j, v.ownBlock = some j → w'.heap[j]? = w.heap[j]?) : w'.ownsRow base t 1 v n xs := by
  refine ⟨h.1, ?_⟩
  rcases h.2 with h0 | ⟨g, cap, cur, rfl, hb, hg, rest⟩
  · exact .inl h0
  · exact .inr ⟨g, cap, cur, rfl, hb, by rw [e g rfl]; exact hg, rest⟩
/-- a row and a struct are no one block -/
theorem owns_box {w : World} {base n q : Nat} {t tb : TypeId} {v : Value} {xs : List Value} {vs : Array Value} (hne : tb ≠ t) (h : w.ownsRow base t 1 v n xs) (b : Box w q tb vs) : ∀ j, v.ownBlock = some j → j ≠ q := by
  intro j hj e
  subst e
  rcases h.2 with ⟨rfl, _⟩ | ⟨g, cap, cur, rfl, hb, hg, rest⟩
  · cases hj
  · cases hj
    have hb' : w.heap[g]? = some (.cells vs tb (0, 0)) := b
    rw [hg] at hb'
    cases hb'
    exact hne rfl
def ApartV (v u : Value) : Prop := ∀ j, v.ownBlock = some j → u.ownBlock ≠ some j
theorem ApartV.symm {v u : Value} (h : ApartV v u) : ApartV u v := fun j hj hk => h j hk hj
/-- tops in a block of the call's own -/
structure TopAt (T I : TypeId) (lo : Nat) (w : World) (q : Nat) (R : Int) (ks cs es : List Int) (v1 v2 v3 : Value) : Prop where
  b : Box w q T #[.int .i64 R, v1, v2, v3]
  o1 : w.ownsRow lo I 1 v1 ks.length (ints ks)
  o2 : w.ownsRow lo I 1 v2 cs.length (ints cs)
  o3 : w.ownsRow lo I 1 v3 es.length (ints es)
  p12 : ApartV v1 v2
  p13 : ApartV v1 v3
  p23 : ApartV v2 v3
  ql : lo ≤ q
  s : lo ≤ w.heap.size
variable {T I : TypeId} {lo : Nat} {w w' : World} {q : Nat} {R : Int} {ks cs es : List Int} {v1 v2 v3 : Value}
theorem TopAt.on (h : TopAt T I lo w q R ks cs es v1 v2 v3) (e : Ext w w') : TopAt T I lo w' q R ks cs es v1 v2 v3 :=
  ⟨h.b.on e, owns_on h.o1 e, owns_on h.o2 e, owns_on h.o3 e, h.p12, h.p13, h.p23, h.ql, Nat.le_trans h.s e.size⟩
theorem box_far {t : TypeId} {vs : Array Value} (h : Box w q t vs) (e : w'.heap[q]? = w.heap[q]?) : Box w' q t vs := e.trans h
/-- blocks but one -/
theorem heap_set {a : Addr} (x : Value) {k : Nat} (h : k ≠ a.block) : (w.setCell a x).heap[k]? = w.heap[k]? := Below.heap_setCell _ _ _ _ h
theorem below_set {w0 : World} (h : Below lo w0 w) {a : Addr} (ha : lo ≤ a.block) (x : Value) : Below lo w0 (w.setCell a x) := h.setCell ha x
/-- the count of a key that is there -/
theorem TopAt.set2 (hTI : T ≠ I) {g n c : Nat} {i : Nat} {x : Int} (h : TopAt T I lo w q R ks cs es v1 (.slice (some ⟨g, 0, none⟩) n c) v3) (hi : i < cs.length) (hn : n = cs.length) : TopAt T I lo (w.setCell ⟨g, i, none⟩ (.int .i64 x)) q R ks (cs.set i x) es v1 (.slice (some ⟨g, 0, none⟩) n c) v3 := by
  subst hn
  have hg : lo ≤ g := (h.o2.lt g rfl).1
  have ho := owns_set (x := x) h.o2 rfl hi
  refine ⟨box_far h.b (heap_set _ (Ne.symm (owns_box hTI h.o2 h.b g rfl))), owns_far h.o1 fun j hj => heap_set _ (fun e => h.p12 j hj (by rw [e]; rfl)), by rw [List.length_set]; exact ho, owns_far h.o3 fun j hj => heap_set _ (fun e => h.p23 g rfl (by rw [hj, e])), h.p12, h.p13, h.p23, h.ql, by simpa [World.setCell] using h.s⟩
theorem TopAt.set1 (hTI : T ≠ I) {g n c : Nat} {i : Nat} {x : Int} (h : TopAt T I lo w q R ks cs es (.slice (some ⟨g, 0, none⟩) n c) v2 v3) (hi : i < ks.length) (hn : n = ks.length) : TopAt T I lo (w.setCell ⟨g, i, none⟩ (.int .i64 x)) q R (ks.set i x) cs es (.slice (some ⟨g, 0, none⟩) n c) v2 v3 := by
  subst hn
  have ho := owns_set (x := x) h.o1 rfl hi
  refine ⟨box_far h.b (heap_set _ (Ne.symm (owns_box hTI h.o1 h.b g rfl))), by rw [List.length_set]; exact ho, owns_far h.o2 fun j hj => heap_set _ (fun e => h.p12 g rfl (by rw [hj, e])), owns_far h.o3 fun j hj => heap_set _ (fun e => h.p13 g rfl (by rw [hj, e])), h.p12, h.p13, h.p23, h.ql, by simpa [World.setCell] using h.s⟩
theorem TopAt.set3 (hTI : T ≠ I) {g n c : Nat} {i : Nat} {x : Int} (h : TopAt T I lo w q R ks cs es v1 v2 (.slice (some ⟨g, 0, none⟩) n c)) (hi : i < es.length) (hn : n = es.length) : TopAt T I lo (w.setCell ⟨g, i, none⟩ (.int .i64 x)) q R ks cs (es.set i x) v1 v2 (.slice (some ⟨g, 0, none⟩) n c) := by
  subst hn
  have ho := owns_set (x := x) h.o3 rfl hi
  refine ⟨box_far h.b (heap_set _ (Ne.symm (owns_box hTI h.o3 h.b g rfl))), owns_far h.o1 fun j hj => heap_set _ (fun e => h.p13 j hj (by rw [e]; rfl)), owns_far h.o2 fun j hj => heap_set _ (fun e => h.p23 j hj (by rw [e]; rfl)), by rw [List.length_set]; exact ho, h.p12, h.p13, h.p23, h.ql, by simpa [World.setCell] using h.s⟩
/-- a number more in the first list: the row has grown, then the struct's cell is written -/
theorem TopAt.app1 (hTI : T ≠ I) {o : Obj} {key : Int} {g c : Nat} {w1 : World} (h : TopAt T I lo w q R ks cs es v1 v2 v3) (ho : w1.ownsRow lo I 1 (.slice (some ⟨g, 0, none⟩) (ks.length + 1) c) (ks.length + 1) (ints ks ++ [.int .i64 key]))
    (hg : (w.alloc o).grownBy w1 v1.ownBlock) (hat9 : v1.ownBlock = some g ∨ g = (w.alloc o).heap.size) :
    Box w1 q T #[.int .i64 R, v1, v2, v3] ∧ TopAt T I lo (w1.setCell ⟨q, 1, none⟩ (.slice (some ⟨g, 0, none⟩) (ks.length + 1) c)) q R (ks ++ [key]) cs es (.slice (some ⟨g, 0, none⟩) (ks.length + 1) c) v2 v3 := by
  have hat : v1.ownBlock = some g ∨ g = w.heap.size + 1 := hat9.imp id (fun e => by simpa using e)
  have hs : w1.heap.size ≥ w.heap.size + 1 := by have := hg.size; simpa using this
  have hq := h.b.lt
  have kp : ∀ k, k < w.heap.size → v1.ownBlock ≠ some k → w1.heap[k]? = w.heap[k]? := fun k hk hne => by
    rw [hg.block k (by simp; omega) (Ne.symm hne)]; exact Below.heap_alloc _ _ _ hk
  have hb : Box w1 q T #[.int .i64 R, v1, v2, v3] := box_far h.b (kp q hq fun e => owns_box hTI h.o1 h.b q e rfl)
  have ho2 := owns_far h.o2 fun j hj => kp j (h.o2.lt j hj).2 (fun e => h.p12 j e hj)
  have ho3 := owns_far h.o3 fun j hj => kp j (h.o3.lt j hj).2 (fun e => h.p13 j e hj)
  have gq : g ≠ q := owns_box hTI ho hb g rfl
  have ap2 : ∀ j, v2.ownBlock = some j → j ≠ g := fun j hj e => by
    subst e
    rcases hat with h1 | h1
    · exact h.p12 j h1 hj
    · have := (h.o2.lt j hj).2; omega
  have ap3 : ∀ j, v3.ownBlock = some j → j ≠ g := fun j hj e => by
    subst e
    rcases hat with h1 | h1
    · exact h.p13 j h1 hj
    · have := (h.o3.lt j hj).2; omega
  refine ⟨hb, ?_⟩
  refine ⟨(hb.putK 1 (.slice (some ⟨g, 0, none⟩) (ks.length + 1) c)), ?_, owns_far ho2 fun j hj => heap_set _ (fun e => owns_box hTI ho2 hb j hj e), owns_far ho3 fun j hj => heap_set _ (fun e => owns_box hTI ho3 hb j hj e), fun j hj hk => ?_, fun j hj hk => ?_, h.p23, h.ql, by have := h.s; simp [World.setCell]; omega⟩
  · rw [List.length_append, List.length_singleton, show ints (ks ++ [key]) = ints ks ++ [.int .i64 key] by unfold ints; rw [List.map_append]; rfl]
    exact owns_far ho fun j hj => by cases hj; exact heap_set _ gq
  · cases hj; exact ap2 g hk rfl
  · cases hj; exact ap3 g hk rfl
theorem TopAt.app2 (hTI : T ≠ I) {o : Obj} {key : Int} {g c : Nat} {w1 : World} (h : TopAt T I lo w q R ks cs es v1 v2 v3) (ho : w1.ownsRow lo I 1 (.slice (some ⟨g, 0, none⟩) (cs.length + 1) c) (cs.length + 1) (ints cs ++ [.int .i64 key]))
    (hg : (w.alloc o).grownBy w1 v2.ownBlock) (hat9 : v2.ownBlock = some g ∨ g = (w.alloc o).heap.size) :
    Box w1 q T #[.int .i64 R, v1, v2, v3] ∧ TopAt T I lo (w1.setCell ⟨q, 2, none⟩ (.slice (some ⟨g, 0, none⟩) (cs.length + 1) c)) q R ks (cs ++ [key]) es v1 (.slice (some ⟨g, 0, none⟩) (cs.length + 1) c) v3 := by
  have hat : v2.ownBlock = some g ∨ g = w.heap.size + 1 := hat9.imp id (fun e => by simpa using e)
  have hs : w1.heap.size ≥ w.heap.size + 1 := by have := hg.size; simpa using this
  have hq := h.b.lt
  have kp : ∀ k, k < w.heap.size → v2.ownBlock ≠ some k → w1.heap[k]? = w.heap[k]? := fun k hk hne => by
    rw [hg.block k (by simp; omega) (Ne.symm hne)]; exact Below.heap_alloc _ _ _ hk
  have hb : Box w1 q T #[.int .i64 R, v1, v2, v3] := box_far h.b (kp q hq fun e => owns_box hTI h.o2 h.b q e rfl)
  have ho1 := owns_far h.o1 fun j hj => kp j (h.o1.lt j hj).2 (fun e => h.p12 j hj e)
  have ho3 := owns_far h.o3 fun j hj => kp j (h.o3.lt j hj).2 (fun e => h.p23 j e hj)
  have gq : g ≠ q := owns_box hTI ho hb g rfl
  have ap1 : ∀ j, v1.ownBlock = some j → j ≠ g := fun j hj e => by
    subst e
    rcases hat with h1 | h1
    · exact h.p12 j hj h1
    · have := (h.o1.lt j hj).2; omega
  have ap3 : ∀ j, v3.ownBlock = some j → j ≠ g := fun j hj e => by
    subst e
    rcases hat with h1 | h1
    · exact h.p23 j h1 hj
    · have := (h.o3.lt j hj).2; omega
  refine ⟨hb, ?_⟩
  refine ⟨(hb.putK 2 (.slice (some ⟨g, 0, none⟩) (cs.length + 1) c)), owns_far ho1 fun j hj => heap_set _ (fun e => owns_box hTI ho1 hb j hj e), ?_, owns_far ho3 fun j hj => heap_set _ (fun e => owns_box hTI ho3 hb j hj e), fun j hj hk => ?_, h.p13, fun j hj hk => ?_, h.ql, by have := h.s; simp [World.setCell]; omega⟩
  · rw [List.length_append, List.length_singleton, show ints (cs ++ [key]) = ints cs ++ [.int .i64 key] by unfold ints; rw [List.map_append]; rfl]
    exact owns_far ho fun j hj => by cases hj; exact heap_set _ gq
  · cases hk; exact ap1 g hj rfl
  · cases hj; exact ap3 g hk rfl
theorem TopAt.app3 (hTI : T ≠ I) {o : Obj} {key : Int} {g c : Nat} {w1 : World} (h : TopAt T I lo w q R ks cs es v1 v2 v3) (ho : w1.ownsRow lo I 1 (.slice (some ⟨g, 0, none⟩) (es.length + 1) c) (es.length + 1) (ints es ++ [.int .i64 key]))
    (hg : (w.alloc o).grownBy w1 v3.ownBlock) (hat9 : v3.ownBlock = some g ∨ g = (w.alloc o).heap.size) :
    Box w1 q T #[.int .i64 R, v1, v2, v3] ∧ TopAt T I lo (w1.setCell ⟨q, 3, none⟩ (.slice (some ⟨g, 0, none⟩) (es.length + 1) c)) q R ks cs (es ++ [key]) v1 v2 (.slice (some ⟨g, 0, none⟩) (es.length + 1) c) := by
  have hat : v3.ownBlock = some g ∨ g = w.heap.size + 1 := hat9.imp id (fun e => by simpa using e)
  have hs : w1.heap.size ≥ w.heap.size + 1 := by have := hg.size; simpa using this
  have hq := h.b.lt
  have kp : ∀ k, k < w.heap.size → v3.ownBlock ≠ some k → w1.heap[k]? = w.heap[k]? := fun k hk hne => by
    rw [hg.block k (by simp; omega) (Ne.symm hne)]; exact Below.heap_alloc _ _ _ hk
  have hb : Box w1 q T #[.int .i64 R, v1, v2, v3] := box_far h.b (kp q hq fun e => owns_box hTI h.o3 h.b q e rfl)
  have ho1 := owns_far h.o1 fun j hj => kp j (h.o1.lt j hj).2 (fun e => h.p13 j hj e)
  have ho2 := owns_far h.o2 fun j hj => kp j (h.o2.lt j hj).2 (fun e => h.p23 j hj e)
  have gq : g ≠ q := owns_box hTI ho hb g rfl
  have ap1 : ∀ j, v1.ownBlock = some j → j ≠ g := fun j hj e => by
    subst e
    rcases hat with h1 | h1
    · exact h.p13 j hj h1
    · have := (h.o1.lt j hj).2; omega
  have ap2 : ∀ j, v2.ownBlock = some j → j ≠ g := fun j hj e => by
    subst e
    rcases hat with h1 | h1
    · exact h.p23 j hj h1
    · have := (h.o2.lt j hj).2; omega
  refine ⟨hb, ?_⟩
  refine ⟨(hb.putK 3 (.slice (some ⟨g, 0, none⟩) (es.length + 1) c)), owns_far ho1 fun j hj => heap_set _ (fun e => owns_box hTI ho1 hb j hj e), owns_far ho2 fun j hj => heap_set _ (fun e => owns_box hTI ho2 hb j hj e), ?_, h.p12, fun j hj hk => ?_, fun j hj hk => ?_, h.ql, by have := h.s; simp [World.setCell]; omega⟩
  · rw [List.length_append, List.length_singleton, show ints (es ++ [key]) = ints es ++ [.int .i64 key] by unfold ints; rw [List.map_append]; rfl]
    exact owns_far ho fun j hj => by cases hj; exact heap_set _ gq
  · cases hk; exact ap1 g hj rfl
  · cases hk; exact ap2 g hj rfl
end Go.Proofs.Ytfmjohpmfcmpoab
