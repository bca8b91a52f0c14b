/-
  DERIVED. GIVEN WITH THE SEED: THE CARDS: each row of YtdbllnmhlfkhbaaDoorRows.lean that lists a variable, with what it lists TIED to the program's text (the seventh form; the later family's looks); each row that meets fmt, with fmt's text TOLD by the authors' own Lean function (tested against real Go, not proved from fmt's source: count such statements apart). THE CARD IS WHAT COUNTS. Prove the row's statement (the work); the ties are given (YtdbllnmhlfkhbaaDoorTie.lean); close each card by the builder's one call (the guide's Derived/Test/ToyasCard.lean, 'card_holds'). Laid BY PROGRAM, IN A SANDBOX (cutbox-door.mjs). By AI agents, Wed Nov 11 2026. No macro, syntax, notation, axiom, sorry.
-/
import Derived.Test.YtdbllnmhlfkhbaaDoorRows
import GoSem.ClaimSeven
namespace Go.Proofs.YtdbllnmhlfkhbaaDoor
namespace Rows

/-- THE TIED CARD OF 'laws.FnExactLowZerosOf'. -/
def fnExactLowZerosOfCard : Claim7 := { stood := { row := fnExactLowZerosOfRow, standIns := [], harness := (true, "c8d5023c31a349503d64870f7e75b79886f2698fef14f6438d17ff4964473b92"), looks := false }, kinds := [], alts := [], laidByText := true, laidKinds := [.data], laidTests := true, laidLooks := .later }
def FnExactLowZerosOfCardSaid : Prop := Claim7.holds Tryd.pinned (.plain (OpenSpec.ofChange fnExactLowZerosOfSpec)) fnExactLowZerosOfCard

/-- THE SECOND FORM's CARD OF 'laws.FnExactLowZerosOf'. -/
def fnExactLowZerosOfUptoCard : Claim7 := { stood := { row := fnExactLowZerosOfUptoRow, standIns := [], harness := (true, "c8d5023c31a349503d64870f7e75b79886f2698fef14f6438d17ff4964473b92"), looks := false }, kinds := [], alts := [], laidByText := true, laidKinds := [.data], laidTests := true, laidLooks := .later }
def FnExactLowZerosOfUptoCardSaid : Prop := Claim7.holds Tryd.pinned (.plain (OpenSpec.upto fnExactLowZerosOfSpec)) fnExactLowZerosOfUptoCard
end Rows
end Go.Proofs.YtdbllnmhlfkhbaaDoor
