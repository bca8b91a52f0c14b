/-
  DERIVED. GIVEN WITH THE SEED: THE CARDS: each row of YtgejfeedcphfkaaDoorRows.lean that lists a variable, with what it lists TIED to the program's text (the seventh form; the later family's looks); each row that meets fmt, with fmt's text TOLD by the authors' own Lean function (tested against real Go, not proved from fmt's source: count such statements apart). THE CARD IS WHAT COUNTS. Prove the row's statement (the work); the ties are given (YtgejfeedcphfkaaDoorTie.lean); close each card by the builder's one call (the guide's Derived/Test/ToyasCard.lean, 'card_holds'). Laid BY PROGRAM, IN A SANDBOX (cutbox-door.mjs). By AI agents, Wed Nov 11 2026. No macro, syntax, notation, axiom, sorry.
-/
import Derived.Test.YtgejfeedcphfkaaDoorRows
import GoSem.ClaimSeven
namespace Go.Proofs.YtgejfeedcphfkaaDoor
namespace Rows

/-- THE TIED CARD OF 'laws.FnExactZerosText'. -/
def fnExactZerosTextCard : Claim7 := { stood := { row := fnExactZerosTextRow, standIns := [], harness := (true, "8ea1673975ea1a2ff02559b6087850a240cd796f1f0f252feeed2969cab4ee70"), looks := true }, kinds := [], alts := [], laidByText := true, laidKinds := [.data, .data, .data], laidTests := true, laidLooks := .later }
def FnExactZerosTextCardSaid : Prop := Claim7.holds Tryd.pinned (.plain (OpenSpec.ofChange fnExactZerosTextSpec)) fnExactZerosTextCard

/-- THE TIED CARD OF 'laws.FnExactSieveText'. -/
def fnExactSieveTextCard : Claim7 := { stood := { row := fnExactSieveTextRow, standIns := [], harness := (true, "8ea1673975ea1a2ff02559b6087850a240cd796f1f0f252feeed2969cab4ee70"), looks := true }, kinds := [], alts := [], laidByText := true, laidKinds := [.data, .data, .data], laidTests := true, laidLooks := .later }
def FnExactSieveTextCardSaid : Prop := Claim7.holds Tryd.pinned (.plain (OpenSpec.ofChange fnExactSieveTextSpec)) fnExactSieveTextCard

/-- THE TIED CARD OF 'laws.FnExactWindowText'. -/
def fnExactWindowTextCard : Claim7 := { stood := { row := fnExactWindowTextRow, standIns := [], harness := (true, "8ea1673975ea1a2ff02559b6087850a240cd796f1f0f252feeed2969cab4ee70"), looks := true }, kinds := [], alts := [], laidByText := true, laidKinds := [.data, .data, .data], laidTests := true, laidLooks := .later }
def FnExactWindowTextCardSaid : Prop := Claim7.holds Tryd.pinned (.plain (OpenSpec.ofChange fnExactWindowTextSpec)) fnExactWindowTextCard

/-- THE TIED CARD OF 'laws.FnExactCountOutputs'. -/
def fnExactCountOutputsCard : Claim7 := { stood := { row := fnExactCountOutputsRow, standIns := [], harness := (true, "8ea1673975ea1a2ff02559b6087850a240cd796f1f0f252feeed2969cab4ee70"), looks := true }, kinds := [], alts := [], laidByText := true, laidKinds := [.data, .pinned], laidTests := true, laidLooks := .later }
def FnExactCountOutputsCardSaid : Prop := Claim7.holds Tryd.pinned (.plain (OpenSpec.ofChange fnExactCountOutputsSpec)) fnExactCountOutputsCard

/-- THE TIED CARD OF 'laws.FnExactJournalOf'. -/
def fnExactJournalOfCard : Claim7 := { stood := { row := fnExactJournalOfRow, standIns := [], harness := (true, "8ea1673975ea1a2ff02559b6087850a240cd796f1f0f252feeed2969cab4ee70"), looks := true }, kinds := [], alts := [], laidByText := true, laidKinds := [.data, .data, .data], laidTests := true, laidLooks := .later }
def FnExactJournalOfCardSaid : Prop := Claim7.holds Tryd.pinned (.plain (OpenSpec.ofChange fnExactJournalOfSpec)) fnExactJournalOfCard

/-- THE TIED CARD OF 'laws.FnExactRecoverJournal'. -/
def fnExactRecoverJournalCard : Claim7 := { stood := { row := fnExactRecoverJournalRow, standIns := [], harness := (true, "8ea1673975ea1a2ff02559b6087850a240cd796f1f0f252feeed2969cab4ee70"), looks := true }, kinds := [], alts := [], laidByText := true, laidKinds := [.data, .data, .data], laidTests := true, laidLooks := .later }
def FnExactRecoverJournalCardSaid : Prop := Claim7.holds Tryd.pinned (.plain (OpenSpec.ofChange fnExactRecoverJournalSpec)) fnExactRecoverJournalCard

/-- THE TIED CARD OF 'laws.FnExactReadList'. -/
def fnExactReadListCard : Claim7 := { stood := { row := fnExactReadListRow, standIns := [], harness := (true, "8ea1673975ea1a2ff02559b6087850a240cd796f1f0f252feeed2969cab4ee70"), looks := true }, kinds := [], alts := [], laidByText := true, laidKinds := [.data, .data, .data, .data, .sentinel, .sentinel, .pinned], laidTests := true, laidLooks := .later }
def FnExactReadListCardSaid : Prop := Claim7.holds Tryd.pinned (.plain (OpenSpec.ofChange fnExactReadListSpec)) fnExactReadListCard

/-- THE SECOND FORM's CARD OF 'laws.FnExactZerosText'. -/
def fnExactZerosTextUptoCard : Claim7 := { stood := { row := fnExactZerosTextUptoRow, standIns := [], harness := (true, "8ea1673975ea1a2ff02559b6087850a240cd796f1f0f252feeed2969cab4ee70"), looks := true }, kinds := [], alts := [], laidByText := true, laidKinds := [.data, .data, .data], laidTests := true, laidLooks := .later }
def FnExactZerosTextUptoCardSaid : Prop := Claim7.holds Tryd.pinned (.plain (OpenSpec.upto fnExactZerosTextSpec)) fnExactZerosTextUptoCard

/-- THE SECOND FORM's CARD OF 'laws.FnExactSieveText'. -/
def fnExactSieveTextUptoCard : Claim7 := { stood := { row := fnExactSieveTextUptoRow, standIns := [], harness := (true, "8ea1673975ea1a2ff02559b6087850a240cd796f1f0f252feeed2969cab4ee70"), looks := true }, kinds := [], alts := [], laidByText := true, laidKinds := [.data, .data, .data], laidTests := true, laidLooks := .later }
def FnExactSieveTextUptoCardSaid : Prop := Claim7.holds Tryd.pinned (.plain (OpenSpec.upto fnExactSieveTextSpec)) fnExactSieveTextUptoCard

/-- THE SECOND FORM's CARD OF 'laws.FnExactWindowText'. -/
def fnExactWindowTextUptoCard : Claim7 := { stood := { row := fnExactWindowTextUptoRow, standIns := [], harness := (true, "8ea1673975ea1a2ff02559b6087850a240cd796f1f0f252feeed2969cab4ee70"), looks := true }, kinds := [], alts := [], laidByText := true, laidKinds := [.data, .data, .data], laidTests := true, laidLooks := .later }
def FnExactWindowTextUptoCardSaid : Prop := Claim7.holds Tryd.pinned (.plain (OpenSpec.upto fnExactWindowTextSpec)) fnExactWindowTextUptoCard

/-- THE SECOND FORM's CARD OF 'laws.FnExactCountOutputs'. -/
def fnExactCountOutputsUptoCard : Claim7 := { stood := { row := fnExactCountOutputsUptoRow, standIns := [], harness := (true, "8ea1673975ea1a2ff02559b6087850a240cd796f1f0f252feeed2969cab4ee70"), looks := true }, kinds := [], alts := [], laidByText := true, laidKinds := [.data, .pinned], laidTests := true, laidLooks := .later }
def FnExactCountOutputsUptoCardSaid : Prop := Claim7.holds Tryd.pinned (.plain (OpenSpec.upto fnExactCountOutputsSpec)) fnExactCountOutputsUptoCard

/-- THE SECOND FORM's CARD OF 'laws.FnExactJournalOf'. -/
def fnExactJournalOfUptoCard : Claim7 := { stood := { row := fnExactJournalOfUptoRow, standIns := [], harness := (true, "8ea1673975ea1a2ff02559b6087850a240cd796f1f0f252feeed2969cab4ee70"), looks := true }, kinds := [], alts := [], laidByText := true, laidKinds := [.data, .data, .data], laidTests := true, laidLooks := .later }
def FnExactJournalOfUptoCardSaid : Prop := Claim7.holds Tryd.pinned (.plain (OpenSpec.upto fnExactJournalOfSpec)) fnExactJournalOfUptoCard

/-- THE SECOND FORM's CARD OF 'laws.FnExactRecoverJournal'. -/
def fnExactRecoverJournalUptoCard : Claim7 := { stood := { row := fnExactRecoverJournalUptoRow, standIns := [], harness := (true, "8ea1673975ea1a2ff02559b6087850a240cd796f1f0f252feeed2969cab4ee70"), looks := true }, kinds := [], alts := [], laidByText := true, laidKinds := [.data, .data, .data], laidTests := true, laidLooks := .later }
def FnExactRecoverJournalUptoCardSaid : Prop := Claim7.holds Tryd.pinned (.plain (OpenSpec.upto fnExactRecoverJournalSpec)) fnExactRecoverJournalUptoCard

/-- THE SECOND FORM's CARD OF 'laws.FnExactReadList'. -/
def fnExactReadListUptoCard : Claim7 := { stood := { row := fnExactReadListUptoRow, standIns := [], harness := (true, "8ea1673975ea1a2ff02559b6087850a240cd796f1f0f252feeed2969cab4ee70"), looks := true }, kinds := [], alts := [], laidByText := true, laidKinds := [.data, .data, .data, .data, .sentinel, .sentinel, .pinned], laidTests := true, laidLooks := .later }
def FnExactReadListUptoCardSaid : Prop := Claim7.holds Tryd.pinned (.plain (OpenSpec.upto fnExactReadListSpec)) fnExactReadListUptoCard
end Rows
end Go.Proofs.YtgejfeedcphfkaaDoor
