/- Slices that a call owns, by what their cells hold; what is read; what other blocks keep. No program. -/
import Derived.WalkKit
import Derived.WalkLawsBesides
import Derived.Deep.OwnRows
import Derived.Deep.Draws
import Derived.Lib.Hide
import Derived.Below
namespace Go.Proofs.Ytfbapbgiegploaa
open Go Go.RowKit
set_option linter.unusedVariables false

/-- what was there is there, as it was -/
def Ext (w w' : World) : Prop := Below w.heap.size w w'
theorem Ext.refl (w : World) : Ext w w := Below.refl _ _
theorem Ext.size {w w' : World} (h : Ext w w') : w.heap.size ≤ w'.heap.size := Below.size h
theorem Ext.trans {a b c : World} (h : Ext a b) (h' : Ext b c) : Ext a c := Below.trans h (Below.mono h' h.size)
theorem Ext.alloc (w : World) (o : Obj) : Ext w (w.alloc o) := (Below.refl _ _).alloc (Nat.le_refl _) _
theorem Ext.drew (w : World) : Ext w w.drew := (Below.refl _ _).drew
theorem Ext.drewN (w : World) (n : Nat) : Ext w (w.drewN n) := ⟨rfl, rfl, rfl, Nat.le_refl _, fun _ _ => rfl⟩
theorem Ext.cell {w w' : World} (h : Ext w w') : ∀ b o, b < w.heap.size → w'.cell? ⟨b, o, none⟩ = w.cell? ⟨b, o, none⟩ := fun b o hb => Below.cell (p := ⟨b, o, none⟩) h hb

/-- all blocks but those from lo to hi are as they were -/
structure Touch (lo hi : Nat) (w w' : World) : Prop where
  os : w'.os = w.os
  tape : w'.tape = w.tape
  output : w'.output = w.output
  size : w.heap.size ≤ w'.heap.size
  block : ∀ k, k < w.heap.size → (k < lo ∨ hi ≤ k) → w'.heap[k]? = w.heap[k]?
theorem Touch.refl (lo hi : Nat) (w : World) : Touch lo hi w w := ⟨rfl, rfl, rfl, Nat.le_refl _, fun _ _ _ => rfl⟩
theorem Touch.of_ext {w w' : World} (h : Ext w w') (lo hi : Nat) : Touch lo hi w w' := ⟨h.os, h.tape, h.output, h.size, fun k hk _ => Below.block h k hk⟩
theorem Touch.trans {lo hi : Nat} {a b c : World} (h : Touch lo hi a b) (k : Touch lo hi b c) : Touch lo hi a c :=
  ⟨k.os.trans h.os, k.tape.trans h.tape, k.output.trans h.output, Nat.le_trans h.size k.size, fun i hi hr => (k.block i (Nat.lt_of_lt_of_le hi h.size) hr).trans (h.block i hi hr)⟩
theorem Touch.wide {lo hi lo' hi' : Nat} {w w' : World} (h : Touch lo hi w w') (h1 : lo' ≤ lo) (h2 : hi ≤ hi') : Touch lo' hi' w w' := ⟨h.os, h.tape, h.output, h.size, fun k hk hr => h.block k hk (by omega)⟩
theorem Touch.below {lo hi B : Nat} {a w w' : World} (h : Below B a w) (t : Touch lo hi w w') (hB : B ≤ lo) (hs : B ≤ w.heap.size) : Below B a w' :=
  h.trans ⟨t.os, t.tape, t.output, t.size, fun k hk => t.block k (by omega) (.inl (by omega))⟩
theorem Touch.setCell {lo hi : Nat} (w : World) {a : Addr} (h1 : lo ≤ a.block) (h2 : a.block < hi) (u : Value) : Touch lo hi w (w.setCell a u) :=
  ⟨rfl, rfl, rfl, by simp [World.setCell], fun k hk hr => Below.heap_setCell _ _ _ _ (by omega)⟩

/-- the slice a, n, c is the call's own, in a block from lo to hi, and holds vs -/
def Own (t : TypeId) (w : World) (lo hi : Nat) (a : Option Addr) (n c : Nat) (vs : List Value) : Prop :=
  vs.length = n ∧ n ≤ c ∧ ((a = none ∧ c = 0) ∨ ∃ g f, a = some ⟨g, 0, none⟩ ∧ lo ≤ g ∧ g < hi ∧ w.rowIs g t c f ∧ ∀ i, i < n → vs[i]? = some (f i))

/-- what a walk is told of a slice that it reads -/
def Reads (w : World) (a : Option Addr) (n : Nat) (vs : List Value) : Prop :=
  vs.length = n ∧ (n = 0 ∨ ∃ b off, a = some ⟨b, off, none⟩ ∧ ∀ i, i < n → w.cell? ⟨b, off + i, none⟩ = vs[i]?)

variable {t : TypeId} {w w' : World} {lo hi n c : Nat} {a : Option Addr} {vs : List Value}
theorem Own.nil (t : TypeId) (w : World) (lo hi : Nat) : Own t w lo hi none 0 0 [] := ⟨rfl, Nat.le_refl _, .inl ⟨rfl, rfl⟩⟩
theorem Own.len (h : Own t w lo hi a n c vs) : vs.length = n := h.1
theorem Own.reads (h : Own t w lo hi a n c vs) : Reads w a n vs := by
  refine ⟨h.1, ?_⟩
  rcases h.2.2 with ⟨_, hc⟩ | ⟨g, f, rfl, _, _, hr, hf⟩
  · exact .inl (by have := h.2.1; omega)
  · exact .inr ⟨g, 0, rfl, fun i hi => by rw [Nat.zero_add, hr.cell (Nat.lt_of_lt_of_le hi h.2.1), hf i hi]⟩
theorem Own.of_block (h : Own t w lo hi a n c vs) (e : ∀ k, lo ≤ k → k < hi → k < w.heap.size → w'.heap[k]? = w.heap[k]?) : Own t w' lo hi a n c vs := by
  refine ⟨h.1, h.2.1, ?_⟩
  rcases h.2.2 with h0 | ⟨g, f, rfl, h1, h2, hr, hf⟩
  · exact .inl h0
  · exact .inr ⟨g, f, rfl, h1, h2, hr.of_block (e g h1 h2 hr.lt), hf⟩
theorem Touch.ext {a w w' : World} {lo hi : Nat} (h : Ext a w) (t : Touch lo hi w w') (hB : a.heap.size ≤ lo) : Ext a w' := Touch.below h t hB h.size
theorem Own.on (h : Own t w lo hi a n c vs) (e : Ext w w') : Own t w' lo hi a n c vs := h.of_block fun k _ _ hk => Below.block e k hk
theorem Own.beside {lo' hi' : Nat} (h : Own t w lo hi a n c vs) (e : Touch lo' hi' w w') (hd : hi ≤ lo' ∨ hi' ≤ lo) : Own t w' lo hi a n c vs := h.of_block fun k h1 h2 hk => e.block k hk (by omega)
theorem Own.wide {lo' hi' : Nat} (h : Own t w lo hi a n c vs) (h1 : lo' ≤ lo) (h2 : hi ≤ hi') : Own t w lo' hi' a n c vs := by
  refine ⟨h.1, h.2.1, ?_⟩
  rcases h.2.2 with h0 | ⟨g, f, rfl, g1, g2, hr, hf⟩
  · exact .inl h0
  · exact .inr ⟨g, f, rfl, by omega, by omega, hr, hf⟩
theorem Reads.on (h : Reads w a n vs) (e : Ext w w') : Reads w' a n vs := by
  refine ⟨h.1, ?_⟩
  rcases h.2 with h0 | ⟨b, off, rfl, hc⟩
  · exact .inl h0
  · refine .inr ⟨b, off, rfl, fun i hi => ?_⟩
    have h1 := hc i hi
    rw [List.getElem?_eq_getElem (by have := h.1; omega)] at h1 ⊢
    rw [e.cell b _ (World.block_lt_of_cell? w ⟨b, off + i, none⟩ h1)]
    exact h1
theorem Reads.len (h : Reads w a n vs) : vs.length = n := h.1
theorem Own.of_row {v : Value} {e : TypeId} (h : w.ownsRow lo t 1 v n vs) : ∃ a c, v = .slice a n c ∧ Own t w lo w.heap.size a n c vs := by
  have hl : vs.length = n := by simpa using h.1
  rcases h.2 with ⟨rfl, rfl⟩ | ⟨g, cap, cur, rfl, hb, hg, hn, hm, hs, ht⟩
  · exact ⟨none, 0, rfl, hl, Nat.le_refl _, .inl ⟨rfl, rfl⟩⟩
  · refine ⟨_, cap, rfl, hl, hn, .inr ⟨g, fun i => cur[i]?.getD default, rfl, hb, (Array.getElem?_eq_some_iff.1 hg).1, ⟨cur, hg, by simpa using hs, fun i hi => ?_⟩, fun i hi => ?_⟩⟩
    · have : i < cur.size := by omega
      show cur[i]? = some (cur[i]?.getD default)
      rw [Array.getElem?_eq_getElem this]; rfl
    · have : i < cur.size := by omega
      show vs[i]? = some (cur[i]?.getD default)
      rw [← ht, List.getElem?_take, if_pos (by omega), Array.getElem?_toList, Array.getElem?_eq_getElem this]; rfl

/-- numbers -/
def ints (zs : List Int) : List Value := zs.map (Value.int .i64)
theorem ints_length (zs : List Int) : (ints zs).length = zs.length := List.length_map _
theorem ints_get (zs : List Int) (i : Nat) (h : i < zs.length) : (ints zs)[i]? = some (.int .i64 (zs[i]?.getD 0)) := by simp [ints, h]
theorem Reads.int {zs : List Int} (h : Reads w a n (ints zs)) : zs.length = n ∧ (n = 0 ∨ ∃ b off, a = some ⟨b, off, none⟩ ∧ ∀ i, i < n → w.cell? ⟨b, off + i, none⟩ = some (.int .i64 (zs[i]?.getD 0))) := by
  have hl : zs.length = n := by rw [← h.1, ints_length]
  refine ⟨hl, ?_⟩
  rcases h.2 with h0 | ⟨b, off, rfl, hc⟩
  · exact .inl h0
  · exact .inr ⟨b, off, rfl, fun i hi => by rw [hc i hi, ints_get zs i (by omega)]⟩
/-- marks from k on -/
def marks (k n : Nat) : List Int := (List.range n).map fun i => ((k + i : Nat) : Int)
theorem marks_length (k n : Nat) : (marks k n).length = n := by simp [marks]
theorem marks_get (k n i : Nat) (h : i < n) : (marks k n)[i]?.getD 0 = ((k + i : Nat) : Int) := by simp [marks, h]

def RetS (t : TypeId) (n : Nat) (vs : List Value) (w : World) (e : Ending) (w' : World) : Prop := ∃ a c, e = .returned (.slice a n c) ∧ Own t w' w.heap.size w'.heap.size a n c vs ∧ Ext w w'
def RetSB (t : TypeId) (n : Nat) (vs : List Value) (b : Bool) (w : World) (e : Ending) (w' : World) : Prop := ∃ a c, e = .returned (.tuple #[.slice a n c, .bool b]) ∧ Own t w' w.heap.size w'.heap.size a n c vs ∧ Ext w w'
theorem RetSB.nil (t : TypeId) (w : World) : RetSB t 0 [] false w (.returned (.tuple #[.slice none 0 0, .bool false])) w := ⟨none, 0, rfl, Own.nil _ _ _ _, Ext.refl _⟩
def RetMark (t : TypeId) (lo hi : Nat) (a : Option Addr) (n c k : Nat) (w : World) (e : Ending) (w' : World) : Prop := e = .returned (.int .i64 ((k + n : Nat) : Int)) ∧ Own t w' lo hi a n c (ints (marks k n)) ∧ Touch lo hi w w'
end Go.Proofs.Ytfbapbgiegploaa
