/-
  DERIVED. GIVEN WITH THE SEED: THE CARDS: each row of YtplngjbllllanaaDoorRows.lean that lists a variable, with what it lists TIED to the program's text (the seventh form; the later family's looks); each row that meets fmt, with fmt's text TOLD by the authors' own Lean function (tested against real Go, not proved from fmt's source: count such statements apart). THE CARD IS WHAT COUNTS. Prove the row's statement (the work); the ties are given (YtplngjbllllanaaDoorTie.lean); close each card by the builder's one call (the guide's Derived/Test/ToyasCard.lean, 'card_holds'). Laid BY PROGRAM, IN A SANDBOX (cutbox-door.mjs). By AI agents, Wed Nov 11 2026. No macro, syntax, notation, axiom, sorry.
-/
import Derived.Test.YtplngjbllllanaaDoorRows
import GoSem.ClaimSeven
namespace Go.Proofs.YtplngjbllllanaaDoor
namespace Rows

/-- THE TIED CARD OF 'laws.FnExactDistinctSample'. -/
def fnExactDistinctSampleCard : Claim7 := { stood := { row := fnExactDistinctSampleRow, standIns := [], harness := (true, "7f247336b155eebb3f94825d00dcab64f5ad3cec4a096c280a90a3f5ad6b21f4"), looks := false }, kinds := [], alts := [], laidByText := true, laidKinds := [.data], laidTests := true, laidLooks := .later }
def FnExactDistinctSampleCardSaid : Prop := Claim7.holds Tryd.pinned (.plain (OpenSpec.ofChange fnExactDistinctSampleSpec)) fnExactDistinctSampleCard

/-- THE TIED CARD OF 'laws.FnExactJoinDistinct'. -/
def fnExactJoinDistinctCard : Claim7 := { stood := { row := fnExactJoinDistinctRow, standIns := [], harness := (true, "7f247336b155eebb3f94825d00dcab64f5ad3cec4a096c280a90a3f5ad6b21f4"), looks := false }, kinds := [], alts := [], laidByText := true, laidKinds := [.data], laidTests := true, laidLooks := .later }
def FnExactJoinDistinctCardSaid : Prop := Claim7.holds Tryd.pinned (.plain (OpenSpec.ofChange fnExactJoinDistinctSpec)) fnExactJoinDistinctCard

/-- THE SECOND FORM's CARD OF 'laws.FnExactDistinctSample'. -/
def fnExactDistinctSampleUptoCard : Claim7 := { stood := { row := fnExactDistinctSampleUptoRow, standIns := [], harness := (true, "7f247336b155eebb3f94825d00dcab64f5ad3cec4a096c280a90a3f5ad6b21f4"), looks := false }, kinds := [], alts := [], laidByText := true, laidKinds := [.data], laidTests := true, laidLooks := .later }
def FnExactDistinctSampleUptoCardSaid : Prop := Claim7.holds Tryd.pinned (.plain (OpenSpec.upto fnExactDistinctSampleSpec)) fnExactDistinctSampleUptoCard

/-- THE SECOND FORM's CARD OF 'laws.FnExactJoinDistinct'. -/
def fnExactJoinDistinctUptoCard : Claim7 := { stood := { row := fnExactJoinDistinctUptoRow, standIns := [], harness := (true, "7f247336b155eebb3f94825d00dcab64f5ad3cec4a096c280a90a3f5ad6b21f4"), looks := false }, kinds := [], alts := [], laidByText := true, laidKinds := [.data], laidTests := true, laidLooks := .later }
def FnExactJoinDistinctUptoCardSaid : Prop := Claim7.holds Tryd.pinned (.plain (OpenSpec.upto fnExactJoinDistinctSpec)) fnExactJoinDistinctUptoCard
end Rows
end Go.Proofs.YtplngjbllllanaaDoor
