/- Slices of slices: what is read, what is the call's own, marks over them. No program. -/
import Derived.Test.YtibldgcfplpdkaaMul
namespace Go.Proofs.Ytibldgcfplpdkaa
open Go.ChangeShapes Go.WideShapes Go.ChangeAt Go.RowKit
set_option linter.unusedVariables false
/-- where a row lies, and its room -/
structure Hd where
  a : Option Addr
  c : Nat
section
variable {α : Type}
def rowS (zss : List (List α)) (i : Nat) : List α := zss[i]?.getD []
def hdV (hs : Nat → Hd) (zss : List (List α)) (i : Nat) : Value := .slice (hs i).a (rowS zss i).length (hs i).c
def hdsV (hs : Nat → Hd) (zss : List (List α)) : List Value := (List.range zss.length).map (hdV hs zss)
theorem hdsV_length (hs : Nat → Hd) (zss : List (List α)) : (hdsV hs zss).length = zss.length := by unfold hdsV; rw [List.length_map, List.length_range]
theorem hdsV_get (hs : Nat → Hd) (zss : List (List α)) (i : Nat) (h : i < zss.length) : (hdsV hs zss)[i]? = some (hdV hs zss i) := by
  unfold hdsV; rw [List.getElem?_map, List.getElem?_range h]; rfl
theorem hdsV_congr {hs : Nat → Hd} {zss yss : List (List α)} (hl : yss.length = zss.length) (h : ∀ i, i < zss.length → (rowS yss i).length = (rowS zss i).length) : hdsV hs yss = hdsV hs zss := by
  unfold hdsV; rw [hl]
  refine List.map_congr_left fun i hi => ?_
  unfold hdV; rw [h i (List.mem_range.1 hi)]
/-- what a walk is told of a slice of slices that it reads -/
structure ReadsS (fn : List α → List Value) (w : World) (a : Option Addr) (n : Nat) (hs : Nat → Hd) (zss : List (List α)) : Prop where
  o : Reads w a n (hdsV hs zss)
  r : ∀ i, i < n → Reads w (hs i).a (rowS zss i).length (fn (rowS zss i))
/-- a slice of slices of the call's own -/
structure OwnS (fn : List α → List Value) (to ti : TypeId) (w : World) (lo hi : Nat) (a : Option Addr) (n c : Nat) (hs : Nat → Hd) (zss : List (List α)) : Prop where
  o : Own to w lo hi a n c (hdsV hs zss)
  r : ∀ i, i < n → Own ti w lo hi (hs i).a (rowS zss i).length (hs i).c (fn (rowS zss i))
  p : ∀ i j, i < n → j < n → i ≠ j → Apart (hs i).a (hs j).a
  q : ∀ i, i < n → Apart (hs i).a a
variable {fn : List α → List Value} {to ti : TypeId} {w w' : World} {lo hi lo' hi' n c : Nat} {a : Option Addr} {hs : Nat → Hd} {zss : List (List α)}
theorem ReadsS.len (h : ReadsS fn w a n hs zss) : zss.length = n := by have := h.o.len; rwa [hdsV_length] at this
theorem OwnS.len (h : OwnS fn to ti w lo hi a n c hs zss) : zss.length = n := by have := h.o.len; rwa [hdsV_length] at this
theorem ReadsS.on (h : ReadsS fn w a n hs zss) (e : Ext w w') : ReadsS fn w' a n hs zss := ⟨h.o.on e, fun i hi => (h.r i hi).on e⟩
theorem OwnS.on (h : OwnS fn to ti w lo hi a n c hs zss) (e : Ext w w') : OwnS fn to ti w' lo hi a n c hs zss := ⟨h.o.on e, fun i hi => (h.r i hi).on e, h.p, h.q⟩
theorem OwnS.beside (h : OwnS fn to ti w lo hi a n c hs zss) (e : Touch lo' hi' w w') (hd : hi ≤ lo' ∨ hi' ≤ lo) : OwnS fn to ti w' lo hi a n c hs zss := ⟨h.o.beside e hd, fun i hi => (h.r i hi).beside e hd, h.p, h.q⟩
theorem OwnS.wide (h : OwnS fn to ti w lo hi a n c hs zss) (h1 : lo' ≤ lo) (h2 : hi ≤ hi') : OwnS fn to ti w lo' hi' a n c hs zss := ⟨h.o.wide h1 h2, fun i hi => (h.r i hi).wide h1 h2, h.p, h.q⟩
theorem OwnS.reads (h : OwnS fn to ti w lo hi a n c hs zss) : ReadsS fn w a n hs zss := ⟨h.o.reads, fun i hi => (h.r i hi).reads⟩
theorem ReadsS.cells (h : ReadsS fn w a n hs zss) : n = 0 ∨ ∃ b off, a = some ⟨b, off, none⟩ ∧ ∀ i, i < n → w.cell? ⟨b, off + i, none⟩ = some (.slice (hs i).a (rowS zss i).length (hs i).c) := by
  have hl := h.len
  rcases h.o.2 with h0 | ⟨b, off, rfl, hc⟩
  · exact .inl h0
  · exact .inr ⟨b, off, rfl, fun i hi => by rw [hc i hi, hdsV_get hs zss i (by omega)]; rfl⟩
theorem OwnS.nil (fn : List α → List Value) (to ti : TypeId) (w : World) (lo hi : Nat) (hs : Nat → Hd) : OwnS fn to ti w lo hi none 0 0 hs [] :=
  ⟨Own.nil _ _ _ _, fun i hi => absurd hi (Nat.not_lt_zero _), fun i j hi => absurd hi (Nat.not_lt_zero _), fun i hi => absurd hi (Nat.not_lt_zero _)⟩
/-- how many elements the first k rows have -/
def totS (zss : List (List α)) : Nat → Nat
  | 0 => 0
  | k + 1 => totS zss k + (rowS zss k).length
theorem totS_succ (zss : List (List α)) (k : Nat) : totS zss (k + 1) = totS zss k + (rowS zss k).length := rfl
theorem totS_add (zss : List (List α)) (k : Nat) : ∀ d, totS zss k ≤ totS zss (k + d)
  | 0 => Nat.le_refl _
  | d + 1 => by have := totS_add zss k d; rw [show k + (d + 1) = (k + d) + 1 from rfl, totS_succ]; omega
theorem totS_mono (zss : List (List α)) {k m : Nat} (h : k ≤ m) : totS zss k ≤ totS zss m := by
  have := totS_add zss k (m - k); rwa [show k + (m - k) = m by omega] at this
theorem totS_row (zss : List (List α)) {k m : Nat} (h : k < m) : totS zss k + (rowS zss k).length ≤ totS zss m := totS_mono zss (show k + 1 ≤ m from h)
/-- the first k rows hold marks from s on -/
def midS (mk : Nat → Nat → List α) (s : Nat) (zss : List (List α)) (k : Nat) : List (List α) := (List.range zss.length).map fun i => if i < k then mk (s + totS zss i) (rowS zss i).length else rowS zss i
def markS (mk : Nat → Nat → List α) (s : Nat) (zss : List (List α)) : List (List α) := midS mk s zss zss.length
theorem midS_length (mk : Nat → Nat → List α) (s : Nat) (zss : List (List α)) (k : Nat) : (midS mk s zss k).length = zss.length := by unfold midS; rw [List.length_map, List.length_range]
theorem midS_lo (mk : Nat → Nat → List α) (s : Nat) (zss : List (List α)) (k i : Nat) (hi : i < zss.length) (hk : i < k) : rowS (midS mk s zss k) i = mk (s + totS zss i) (rowS zss i).length := by
  unfold midS; rw [show rowS ((List.range zss.length).map fun i => if i < k then mk (s + totS zss i) (rowS zss i).length else rowS zss i) i = if i < k then mk (s + totS zss i) (rowS zss i).length else rowS zss i by unfold rowS; rw [List.getElem?_map, List.getElem?_range hi]; rfl, if_pos hk]
theorem midS_hi (mk : Nat → Nat → List α) (s : Nat) (zss : List (List α)) (k i : Nat) (hi : i < zss.length) (hk : ¬ i < k) : rowS (midS mk s zss k) i = rowS zss i := by
  unfold midS; rw [show rowS ((List.range zss.length).map fun i => if i < k then mk (s + totS zss i) (rowS zss i).length else rowS zss i) i = if i < k then mk (s + totS zss i) (rowS zss i).length else rowS zss i by unfold rowS; rw [List.getElem?_map, List.getElem?_range hi]; rfl, if_neg hk]
theorem midS_len {mk : Nat → Nat → List α} (hm : ∀ s n, (mk s n).length = n) (s : Nat) (zss : List (List α)) (k i : Nat) (hi : i < zss.length) : (rowS (midS mk s zss k) i).length = (rowS zss i).length := by
  by_cases hk : i < k
  · rw [midS_lo mk s zss k i hi hk, hm]
  · rw [midS_hi mk s zss k i hi hk]
theorem rowS_ext {xs ys : List (List α)} (hl : xs.length = ys.length) (h : ∀ i, i < xs.length → rowS xs i = rowS ys i) : xs = ys := by
  apply List.ext_getElem? fun i => ?_
  by_cases hi : i < xs.length
  · have := h i hi
    unfold rowS at this
    rw [List.getElem?_eq_getElem hi, List.getElem?_eq_getElem (show i < ys.length by omega)] at this ⊢
    simpa using this
  · rw [List.getElem?_eq_none (by omega), List.getElem?_eq_none (by omega)]
theorem midS_zero (mk : Nat → Nat → List α) (s : Nat) (zss : List (List α)) : midS mk s zss 0 = zss :=
  rowS_ext (midS_length _ _ _ _) fun i hi => midS_hi mk s zss 0 i (by rw [midS_length] at hi; exact hi) (Nat.not_lt_zero _)
/-- the next row is marked -/
theorem OwnS.mark {mk : Nat → Nat → List α} (hm : ∀ s n, (mk s n).length = n) {s k : Nat} (hk : k < n) (h : OwnS fn to ti w lo hi a n c hs (midS mk s zss k)) (kp : Keeps (hs k).a w w')
    (o' : Own ti w' lo hi (hs k).a (rowS zss k).length (hs k).c (fn (mk (s + totS zss k) (rowS zss k).length))) : OwnS fn to ti w' lo hi a n c hs (midS mk s zss (k + 1)) := by
  have hl := h.len
  rw [midS_length] at hl
  have hh : hdsV hs (midS mk s zss (k + 1)) = hdsV hs (midS mk s zss k) := hdsV_congr (by rw [midS_length, midS_length]) fun i hi => by
    rw [midS_length] at hi; rw [midS_len hm s zss _ i hi, midS_len hm s zss _ i hi]
  refine ⟨by rw [hh]; exact kp.own h.o (h.q k hk).symm, fun i hi => ?_, h.p, h.q⟩
  by_cases e : i = k
  · subst e
    rw [midS_lo mk s zss (i + 1) i (by omega) (Nat.lt_succ_self _), hm]; exact o'
  · have h1 := kp.own (h.r i hi) (h.p i k hi hk e)
    by_cases g : i < k
    · rw [midS_lo mk s zss k i (by omega) g] at h1; rw [midS_lo mk s zss (k + 1) i (by omega) (by omega)]; exact h1
    · rw [midS_hi mk s zss k i (by omega) g] at h1; rw [midS_hi mk s zss (k + 1) i (by omega) (by omega)]; exact h1
/-- the row whose turn is next -/
theorem OwnS.at_mid {mk : Nat → Nat → List α} {s k : Nat} (hk : k < n) (h : OwnS fn to ti w lo hi a n c hs (midS mk s zss k)) : Own ti w lo hi (hs k).a (rowS zss k).length (hs k).c (fn (rowS zss k)) := by
  have hl := h.len
  rw [midS_length] at hl
  have := h.r k hk
  rwa [midS_hi mk s zss k k (by omega) (Nat.lt_irrefl _)] at this
theorem OwnS.head_mid {mk : Nat → Nat → List α} (hm : ∀ s n, (mk s n).length = n) {s k i : Nat} (hin : i < n) (h : OwnS fn to ti w lo hi a n c hs (midS mk s zss k)) :
    ∃ b off, a = some ⟨b, off, none⟩ ∧ w.cell? ⟨b, off + i, none⟩ = some (.slice (hs i).a (rowS zss i).length (hs i).c) := by
  have hl := h.len
  rw [midS_length] at hl
  rcases h.reads.cells with h0 | ⟨b, off, rfl, hc⟩
  · omega
  · exact ⟨b, off, rfl, by rw [hc i hin, midS_len hm s zss k i (by omega)]⟩
/-- what a function answers: a slice of slices of its own -/
def RetSS (fn : List α → List Value) (to ti : TypeId) (zss : List (List α)) (w : World) (e : Ending) (w' : World) : Prop := ∃ a c hs, e = .returned (.slice a zss.length c) ∧ OwnS fn to ti w' w.heap.size w'.heap.size a zss.length c hs zss ∧ Ext w w'
def RetSSB (fn : List α → List Value) (to ti : TypeId) (zss : List (List α)) (b : Bool) (w : World) (e : Ending) (w' : World) : Prop := ∃ a c hs, e = .returned (.tuple #[.slice a zss.length c, .bool b]) ∧ OwnS fn to ti w' w.heap.size w'.heap.size a zss.length c hs zss ∧ Ext w w'
def RetMarkS (fn : List α → List Value) (mk : Nat → Nat → List α) (to ti : TypeId) (lo hi : Nat) (a : Option Addr) (n c : Nat) (hs : Nat → Hd) (zss : List (List α)) (s : Nat) (w : World) (e : Ending) (w' : World) : Prop := e = .returned (.int .i64 ((s + totS zss zss.length : Nat) : Int)) ∧ OwnS fn to ti w' lo hi a n c hs (markS mk s zss) ∧ Touch lo hi w w'
/-- the first k rows made, in a row of headers at block g -/
structure MadeS (fn : List α → List Value) (to ti : TypeId) (w : World) (g n : Nat) (hs : Nat → Hd) (zss : List (List α)) (k : Nat) : Prop where
  o : w.rowIs g to n (fun i => if i < k then hdV hs zss i else .slice none 0 0)
  r : ∀ i, i < k → Own ti w (g + 1) w.heap.size (hs i).a (rowS zss i).length (hs i).c (fn (rowS zss i))
  p : ∀ i j, i < k → j < k → i ≠ j → Apart (hs i).a (hs j).a
def setHd (hs : Nat → Hd) (k : Nat) (a : Option Addr) (c : Nat) : Nat → Hd := fun i => if i = k then ⟨a, c⟩ else hs i
theorem setHd_at (hs : Nat → Hd) (k : Nat) (a : Option Addr) (c : Nat) : setHd hs k a c k = ⟨a, c⟩ := if_pos rfl
theorem setHd_ne (hs : Nat → Hd) {k i : Nat} (a : Option Addr) (c : Nat) (h : i ≠ k) : setHd hs k a c i = hs i := if_neg h
/-- the next row is made by a call, and its header is stored -/
theorem MadeS.next {g k : Nat} {a' : Option Addr} {c' : Nat} (hk : k < n) (h : MadeS fn to ti w g n hs zss k) (x : Ext w w') (o' : Own ti w' w.heap.size w'.heap.size a' (rowS zss k).length c' (fn (rowS zss k))) :
    MadeS fn to ti (w'.setCell ⟨g, k, none⟩ (.slice a' (rowS zss k).length c')) g n (setHd hs k a' c') zss (k + 1) := by
  have hg := h.o.lt
  have T : Touch g (g + 1) w' (w'.setCell ⟨g, k, none⟩ (.slice a' (rowS zss k).length c')) := Touch.setCell w' (a := ⟨g, k, none⟩) (Nat.le_refl _) (Nat.lt_succ_self _) _
  have hs' : (w'.setCell ⟨g, k, none⟩ (.slice a' (rowS zss k).length c')).heap.size = w'.heap.size := by simp [World.setCell]
  refine ⟨?_, ?_, ?_⟩
  · refine ((h.o.of_block (Below.block x g hg)).set k _).congr fun i hi => ?_
    by_cases e : i = k
    · subst e; rw [if_pos rfl, if_pos (Nat.lt_succ_self _)]; unfold hdV; rw [setHd_at]
    · rw [if_neg e]
      by_cases e2 : i < k
      · rw [if_pos e2, if_pos (by omega)]; unfold hdV; rw [setHd_ne _ _ _ e]
      · rw [if_neg e2, if_neg (by omega)]
  · intro i hi
    rw [hs']
    by_cases e : i = k
    · subst e; rw [setHd_at]; exact (o'.wide (by omega) (Nat.le_refl _)).beside T (.inr (Nat.le_refl _))
    · rw [setHd_ne _ _ _ e]
      exact (((h.r i (by omega)).on x).wide (Nat.le_refl _) x.size).beside T (.inr (Nat.le_refl _))
  · intro i j hi hj hij
    by_cases e : i = k
    · subst e; rw [setHd_at, setHd_ne _ _ _ (show j ≠ i by omega)]
      exact (o'.apart_of (h.r j (by omega)) (.inr (Nat.le_refl _)))
    · rw [setHd_ne _ _ _ e]
      by_cases e2 : j = k
      · subst e2; rw [setHd_at]; exact (h.r i (by omega)).apart_of o' (.inl (Nat.le_refl _))
      · rw [setHd_ne _ _ _ e2]; exact h.p i j (by omega) (by omega) hij
theorem MadeS.zero {g : Nat} (hs : Nat → Hd) (h : w.rowIs g to n (fun _ => .slice none 0 0)) : MadeS fn to ti w g n hs zss 0 :=
  ⟨h.congr fun i hi => by rw [if_neg (Nat.not_lt_zero _)], fun i hi => absurd hi (Nat.not_lt_zero _), fun i j hi => absurd hi (Nat.not_lt_zero _)⟩
theorem MadeS.all {g : Nat} (hn : zss.length = n) (h : MadeS fn to ti w g n hs zss n) : OwnS fn to ti w g w.heap.size (some ⟨g, 0, none⟩) n n hs zss := by
  refine ⟨⟨by rw [hdsV_length]; exact hn, Nat.le_refl _, .inr ⟨g, _, rfl, Nat.le_refl _, h.o.lt, h.o, fun i hi => by rw [hdsV_get hs zss i (by omega), if_pos hi]⟩⟩, fun i hi => (h.r i hi).wide (by omega) (Nat.le_refl _), h.p, fun i hi => ?_⟩
  intro x y hx hy
  cases hy
  rcases (h.r i hi).2.2 with ⟨h0, _⟩ | ⟨g', f, h1, h2, _⟩
  · rw [h0] at hx; cases hx
  · rw [h1] at hx; cases hx
    show g' ≠ g
    omega
end
end Go.Proofs.Ytibldgcfplpdkaa
