/- Slices of slices of bools: arguments of a law, opened. No program. -/
import Derived.Test.YtfmjohpmfcmpoaaSso
import Derived.Test.YtfmjohpmfcmpoaaBls
import Derived.Deep.Grids
namespace Go.Proofs.Ytfmjohpmfcmpoaa
open Go.ChangeShapes Go.WideShapes Go.ChangeAt Go.RowKit
set_option linter.unusedVariables false
theorem isS_bools {H : Type} {enc : TypeId × Value → H} {P : Program} {w : World} {base : Nat} {held : Bool} {t e q : TypeId} {fuel : Nat} {v : Value} {x : DataW H × List MemPlace}
    (ht : P.underlying t = some (.slice e)) (he : P.underlying e = some (.slice q)) (hq : P.underlying q = some .bool) (ce : P.cellsOf e = 1) (cq : P.cellsOf q = 1)
    (h : DataW.trod enc P w base (fun _ => true) held fuel t [v] = some x) :
    ∃ (a : Option Addr) (l c : Nat) (hd : Nat → Hd) (zss : List (List Bool)), v = .slice a l c ∧ IsS bools w a l hd zss := by
  obtain ⟨a, l, c, hd, zss, hv, h1, _⟩ := isS_open (fn := bools) (Q := fun _ => True) ht ce (fun m v y hy => by
    obtain ⟨a, l, c, zs, hv, hz⟩ : ∃ a l c zs, v = .slice a l c ∧ IsBRow w a l c zs := by
      rcases Deep.open_bools he hq cq hy with ⟨hcs, _⟩ | ⟨x, l, c, B, hcs, _, hl, hm, _, hcell⟩
      · exact ⟨none, 0, 0, [], by simpa using hcs, .inl ⟨rfl, rfl, rfl, rfl⟩⟩
      · exact ⟨some x, l, c, (List.range c).map B, by simpa using hcs, .inr ⟨_, rfl, hl, hm, by simp, fun i hi => (by have hi2 : i < c := (by simpa using hi); rw [hcell i hi2]; simp [List.getD, hi2])⟩⟩
    exact ⟨a, l, c, zs.take l, hv, hz.rd.1, (by have := hz.rd.1.len; rwa [bools_length] at this), hz.rd.2, trivial⟩) h
  exact ⟨a, l, c, hd, zss, hv, h1⟩
end Go.Proofs.Ytfmjohpmfcmpoaa
