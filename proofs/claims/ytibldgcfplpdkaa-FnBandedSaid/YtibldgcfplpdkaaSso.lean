/- Slices of slices: arguments of a law, opened. No program. -/
import Derived.Test.YtibldgcfplpdkaaSsl
import Derived.Test.YtibldgcfplpdkaaFlw
import Derived.Deep.Slices
namespace Go.Proofs.Ytibldgcfplpdkaa
open Go.ChangeShapes Go.WideShapes Go.ChangeAt Go.RowKit
set_option linter.unusedVariables false
/-- a slice of slices that came in -/
structure IsS {α : Type} (fn : List α → List Value) (w : World) (a : Option Addr) (n : Nat) (hs : Nat → Hd) (zss : List (List α)) : Prop where
  rd : ReadsS fn w a n hs zss
  m : n ≤ maxLen
  mr : ∀ i, i < n → (rowS zss i).length ≤ maxLen
/-- its rows are floats of 32 bits -/
def BitsS (zss : List (List Nat)) : Prop := ∀ i, i < zss.length → ∀ z ∈ rowS zss i, z < 4294967296
theorem isS_open {α : Type} {fn : List α → List Value} {Q : List α → Prop} {H : Type} {enc : TypeId × Value → H} {P : Program} {w : World} {base : Nat} {held : Bool} {t e : TypeId} {fuel : Nat} {v : Value} {x : DataW H × List MemPlace}
    (ht : P.underlying t = some (.slice e)) (ce : P.cellsOf e = 1)
    (hrow : ∀ (m : Nat) (v : Value) (y : DataW H × List MemPlace), DataW.trod enc P w base (fun _ => true) held m e [v] = some y → ∃ (a : Option Addr) (l c : Nat) (zs : List α), v = .slice a l c ∧ Reads w a l (fn zs) ∧ zs.length = l ∧ l ≤ maxLen ∧ Q zs)
    (h : DataW.trod enc P w base (fun _ => true) held fuel t [v] = some x) :
    ∃ (a : Option Addr) (l c : Nat) (hd : Nat → Hd) (zss : List (List α)), v = .slice a l c ∧ IsS fn w a l hd zss ∧ ∀ i, i < l → Q (rowS zss i) := by
  rcases Deep.open_slice1 ht ce h with ⟨hcs, _⟩ | ⟨y, l, c, m, n, V, D, Pl, hcs, _, hl, hm, hmm, _, hx⟩
  · obtain rfl : v = .slice none 0 0 := by simpa using hcs
    exact ⟨none, 0, 0, fun _ => ⟨none, 0⟩, [], rfl, ⟨⟨⟨rfl, .inl rfl⟩, fun i hi => absurd hi (Nat.not_lt_zero _)⟩, Nat.zero_le _, fun i hi => absurd hi (Nat.not_lt_zero _)⟩, fun i hi => absurd hi (Nat.not_lt_zero _)⟩
  · obtain rfl : v = .slice (some y) l c := by simpa using hcs
    simp only [if_true] at hmm
    rw [hmm] at hx
    clear hmm
    obtain ⟨f, hf⟩ := Deep.choose_lt (n := l) (α := Option Addr × Nat × List α) (p := fun i u => V i = .slice u.1 u.2.2.length u.2.1 ∧ Reads w u.1 u.2.2.length (fn u.2.2) ∧ u.2.2.length ≤ maxLen ∧ Q u.2.2) (fun i hi => by
      obtain ⟨a, l', c', zs, h1, h2, h3, h4, h5⟩ := hrow _ _ _ (hx i (by omega)).2
      subst h3
      exact ⟨(a, c', zs), h1, h2, h4, h5⟩)
    have hrw : ∀ i, i < l → rowS ((List.range l).map fun i => (f i).2.2) i = (f i).2.2 := fun i hi => by
      unfold rowS; rw [List.getElem?_map, List.getElem?_range hi]; rfl
    have hlen : ((List.range l).map fun i => (f i).2.2).length = l := by rw [List.length_map, List.length_range]
    refine ⟨some y, l, c, fun i => ⟨(f i).1, (f i).2.1⟩, (List.range l).map fun i => (f i).2.2, rfl, ⟨⟨⟨by rw [hdsV_length, hlen], ?_⟩, fun i hi => by rw [hrw i hi]; exact (hf i hi).2.1⟩, by omega, fun i hi => by rw [hrw i hi]; exact (hf i hi).2.2.1⟩, fun i hi => by rw [hrw i hi]; exact (hf i hi).2.2.2⟩
    by_cases h0 : l = 0
    · exact .inl h0
    · obtain ⟨b, off, spot⟩ := y
      have hs := (hx 0 (by omega)).1
      have hspot : spot = none := by simpa [Addr.add] using World.cell?_spot hs
      subst hspot
      refine .inr ⟨b, off, rfl, fun i hi => ?_⟩
      have h1 := (hx i (by omega)).1
      have e : (⟨b, off, none⟩ : Addr).add i = ⟨b, off + i, none⟩ := by unfold Addr.add; split <;> simp_all
      rw [e] at h1
      rw [h1, (hf i hi).1, hdsV_get _ _ i (by rw [hlen]; exact hi)]
      unfold hdV
      rw [hrw i hi]
theorem isS_floats {H : Type} {enc : TypeId × Value → H} {P : Program} {w : World} {base : Nat} {held : Bool} {t e q : TypeId} {fuel : Nat} {v : Value} {x : DataW H × List MemPlace}
    (ht : P.underlying t = some (.slice e)) (he : P.underlying e = some (.slice q)) (hq : P.underlying q = some (.float .f32)) (ce : P.cellsOf e = 1) (cq : P.cellsOf q = 1)
    (h : DataW.trod enc P w base (fun _ => true) held fuel t [v] = some x) :
    ∃ (a : Option Addr) (l c : Nat) (hd : Nat → Hd) (zss : List (List Nat)), v = .slice a l c ∧ IsS flos w a l hd zss ∧ BitsS zss := by
  obtain ⟨a, l, c, hd, zss, hv, h1, h2⟩ := isS_open (fn := flos) (Q := fun zs => ∀ z ∈ zs, z < 4294967296) ht ce (fun m v y hy => by
    obtain ⟨a, l, c, zs, hv, hz⟩ := open_floats_at he hq cq hy
    refine ⟨a, l, c, zs.take l, hv, hz.rd.1, ?_, hz.rd.2, hz.bits⟩
    have := hz.rd.1.len
    rwa [flos_length] at this) h
  exact ⟨a, l, c, hd, zss, hv, h1, fun i hi => h2 i (by rw [h1.rd.len] at hi; exact hi)⟩
end Go.Proofs.Ytibldgcfplpdkaa
