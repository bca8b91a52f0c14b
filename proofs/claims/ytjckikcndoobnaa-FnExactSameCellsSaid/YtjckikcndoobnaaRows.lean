/-
  No cell of these rows narrows 'for every input' (looked for: loops, veiled, ifaces, maps, wideKeys, modest, calm, conditions, laid).
  DERIVED. THE GIVEN ROWS OF THIS SEAT. 12 by the template 'for every input the law returns true; each argument reads behind the call as it read before'; 0 by the template 'total and deterministic' (their statements: YtjckikcndoobnaaTotals.lean).
  GIVEN WITH THE SEED: the statements are not yours to turn. If you find one false, say at which input.
  Laid BY PROGRAM, IN A SANDBOX (cutbox-rows.mjs): the forced cells as the released guide's own fill.sh prints them over the translation 2486450a77e3be69… (all of the seat's roots in one cut). By AI agents, Wed Nov 11 2026. No macro, syntax, notation, axiom, sorry.
-/
import Derived.Test.YtjckikcndoobnaaChecked
import GoSem.Claim
import GoSem.ClaimJoined
import GoSem.ClaimMapViews
import Derived.JoinedTies
import Derived.KernelRfl
namespace Go.Proofs.Ytjckikcndoobnaa
/- THE CELL 'sum', in the pinned program and in every row, IS THE sha256 OF THE DUMP (.gsa) THAT YtjckikcndoobnaaProg.lean LOADS. Nothing in Lean hashes anything: it is a label: what it is worth is what the hold of that sum in a sandbox is worth. -/
noncomputable def Try.pinned : Pinned := { name := "ytjckikcndoobnaa", sum := "2486450a77e3be699ecf65e95ff54057a84512148ce87ab0e4f58cf47e531c2a", checked := Try.checked }
namespace Rows
def none {H : Type} : Left H := { results := [], args := [] }

/-- 'laws.FnExactValidCells': WHATEVER THE INPUT: true; the input reads as it did. -/
def fnExactValidCellsSpec : ChangeSpec := { name := "fnExactValidCells", fn := fun _ => fun
  | [d] => { results := [.lit (.bool true)], args := [d] }
  | _ => none }
def fnExactValidCellsRow : OpenClaim := { program := "ytjckikcndoobnaa", sum := "2486450a77e3be699ecf65e95ff54057a84512148ce87ab0e4f58cf47e531c2a", func := "loop.example/g01347/laws.FnExactValidCells", spec := "fnExactValidCells", apart := false }
def FnExactValidCellsSaid : Prop := fnExactValidCellsRow.holds Try.pinned (OpenSpec.ofChange fnExactValidCellsSpec)

/-- ITS FALSE NEIGHBOUR: 'it returns false'. Refute it at one input. -/
def fnExactValidCellsWrong : ChangeSpec := { name := "fnExactValidCells", fn := fun _ => fun
  | [d] => { results := [.lit (.bool false)], args := [d] }
  | _ => none }
def FnExactValidCellsWrongFalsely : Prop := fnExactValidCellsRow.holds Try.pinned (OpenSpec.ofChange fnExactValidCellsWrong)

/-- 'laws.FnExactSameCells': WHATEVER THE INPUT: true; the input reads as it did. -/
def fnExactSameCellsSpec : ChangeSpec := { name := "fnExactSameCells", fn := fun _ => fun
  | [d1, d2] => { results := [.lit (.bool true)], args := [d1, d2] }
  | _ => none }
def fnExactSameCellsRow : OpenClaim := { program := "ytjckikcndoobnaa", sum := "2486450a77e3be699ecf65e95ff54057a84512148ce87ab0e4f58cf47e531c2a", func := "loop.example/g01347/laws.FnExactSameCells", spec := "fnExactSameCells", apart := false }
def FnExactSameCellsSaid : Prop := fnExactSameCellsRow.holds Try.pinned (OpenSpec.ofChange fnExactSameCellsSpec)

/-- ITS FALSE NEIGHBOUR: 'it returns false'. Refute it at one input. -/
def fnExactSameCellsWrong : ChangeSpec := { name := "fnExactSameCells", fn := fun _ => fun
  | [d1, d2] => { results := [.lit (.bool false)], args := [d1, d2] }
  | _ => none }
def FnExactSameCellsWrongFalsely : Prop := fnExactSameCellsRow.holds Try.pinned (OpenSpec.ofChange fnExactSameCellsWrong)

/-- 'laws.FnExactNewCells': WHATEVER THE INPUT: true; the input reads as it did. -/
def fnExactNewCellsSpec : ChangeSpec := { name := "fnExactNewCells", fn := fun _ => fun
  | [d1, d2, d3] => { results := [.lit (.bool true)], args := [d1, d2, d3] }
  | _ => none }
def fnExactNewCellsRow : OpenClaim := { program := "ytjckikcndoobnaa", sum := "2486450a77e3be699ecf65e95ff54057a84512148ce87ab0e4f58cf47e531c2a", func := "loop.example/g01347/laws.FnExactNewCells", spec := "fnExactNewCells", apart := false }
def FnExactNewCellsSaid : Prop := fnExactNewCellsRow.holds Try.pinned (OpenSpec.ofChange fnExactNewCellsSpec)

/-- ITS FALSE NEIGHBOUR: 'it returns false'. Refute it at one input. -/
def fnExactNewCellsWrong : ChangeSpec := { name := "fnExactNewCells", fn := fun _ => fun
  | [d1, d2, d3] => { results := [.lit (.bool false)], args := [d1, d2, d3] }
  | _ => none }
def FnExactNewCellsWrongFalsely : Prop := fnExactNewCellsRow.holds Try.pinned (OpenSpec.ofChange fnExactNewCellsWrong)

/-- 'laws.FnExactPlacesOf': WHATEVER THE INPUT: true; the input reads as it did. -/
def fnExactPlacesOfSpec : ChangeSpec := { name := "fnExactPlacesOf", fn := fun _ => fun
  | [d1, d2] => { results := [.lit (.bool true)], args := [d1, d2] }
  | _ => none }
def fnExactPlacesOfRow : OpenClaim := { program := "ytjckikcndoobnaa", sum := "2486450a77e3be699ecf65e95ff54057a84512148ce87ab0e4f58cf47e531c2a", func := "loop.example/g01347/laws.FnExactPlacesOf", spec := "fnExactPlacesOf", apart := false }
def FnExactPlacesOfSaid : Prop := fnExactPlacesOfRow.holds Try.pinned (OpenSpec.ofChange fnExactPlacesOfSpec)

/-- ITS FALSE NEIGHBOUR: 'it returns false'. Refute it at one input. -/
def fnExactPlacesOfWrong : ChangeSpec := { name := "fnExactPlacesOf", fn := fun _ => fun
  | [d1, d2] => { results := [.lit (.bool false)], args := [d1, d2] }
  | _ => none }
def FnExactPlacesOfWrongFalsely : Prop := fnExactPlacesOfRow.holds Try.pinned (OpenSpec.ofChange fnExactPlacesOfWrong)

/-- 'laws.FnExactPutCells': WHATEVER THE INPUT: true; the input reads as it did. -/
def fnExactPutCellsSpec : ChangeSpec := { name := "fnExactPutCells", fn := fun _ => fun
  | [d1, d2, d3] => { results := [.lit (.bool true)], args := [d1, d2, d3] }
  | _ => none }
def fnExactPutCellsRow : OpenClaim := { program := "ytjckikcndoobnaa", sum := "2486450a77e3be699ecf65e95ff54057a84512148ce87ab0e4f58cf47e531c2a", func := "loop.example/g01347/laws.FnExactPutCells", spec := "fnExactPutCells", unfollowed := true, recurses := true, apart := false }
def FnExactPutCellsSaid : Prop := fnExactPutCellsRow.holds Try.pinned (OpenSpec.ofChange fnExactPutCellsSpec)

/-- ITS FALSE NEIGHBOUR: 'it returns false'. Refute it at one input. -/
def fnExactPutCellsWrong : ChangeSpec := { name := "fnExactPutCells", fn := fun _ => fun
  | [d1, d2, d3] => { results := [.lit (.bool false)], args := [d1, d2, d3] }
  | _ => none }
def FnExactPutCellsWrongFalsely : Prop := fnExactPutCellsRow.holds Try.pinned (OpenSpec.ofChange fnExactPutCellsWrong)

/-- 'laws.FnExactPutCareful': WHATEVER THE INPUT: true; the input reads as it did. -/
def fnExactPutCarefulSpec : ChangeSpec := { name := "fnExactPutCareful", fn := fun _ => fun
  | [d1, d2, d3] => { results := [.lit (.bool true)], args := [d1, d2, d3] }
  | _ => none }
def fnExactPutCarefulRow : OpenClaim := { program := "ytjckikcndoobnaa", sum := "2486450a77e3be699ecf65e95ff54057a84512148ce87ab0e4f58cf47e531c2a", func := "loop.example/g01347/laws.FnExactPutCareful", spec := "fnExactPutCareful", unfollowed := true, recurses := true, apart := false }
def FnExactPutCarefulSaid : Prop := fnExactPutCarefulRow.holds Try.pinned (OpenSpec.ofChange fnExactPutCarefulSpec)

/-- ITS FALSE NEIGHBOUR: 'it returns false'. Refute it at one input. -/
def fnExactPutCarefulWrong : ChangeSpec := { name := "fnExactPutCareful", fn := fun _ => fun
  | [d1, d2, d3] => { results := [.lit (.bool false)], args := [d1, d2, d3] }
  | _ => none }
def FnExactPutCarefulWrongFalsely : Prop := fnExactPutCarefulRow.holds Try.pinned (OpenSpec.ofChange fnExactPutCarefulWrong)

/-- 'laws.FnExactCellsAt': WHATEVER THE INPUT: true; the input reads as it did. -/
def fnExactCellsAtSpec : ChangeSpec := { name := "fnExactCellsAt", fn := fun _ => fun
  | [d1, d2] => { results := [.lit (.bool true)], args := [d1, d2] }
  | _ => none }
def fnExactCellsAtRow : OpenClaim := { program := "ytjckikcndoobnaa", sum := "2486450a77e3be699ecf65e95ff54057a84512148ce87ab0e4f58cf47e531c2a", func := "loop.example/g01347/laws.FnExactCellsAt", spec := "fnExactCellsAt", apart := false }
def FnExactCellsAtSaid : Prop := fnExactCellsAtRow.holds Try.pinned (OpenSpec.ofChange fnExactCellsAtSpec)

/-- ITS FALSE NEIGHBOUR: 'it returns false'. Refute it at one input. -/
def fnExactCellsAtWrong : ChangeSpec := { name := "fnExactCellsAt", fn := fun _ => fun
  | [d1, d2] => { results := [.lit (.bool false)], args := [d1, d2] }
  | _ => none }
def FnExactCellsAtWrongFalsely : Prop := fnExactCellsAtRow.holds Try.pinned (OpenSpec.ofChange fnExactCellsAtWrong)

/-- 'laws.FnExactCellsTotal': WHATEVER THE INPUT: true; the input reads as it did. -/
def fnExactCellsTotalSpec : ChangeSpec := { name := "fnExactCellsTotal", fn := fun _ => fun
  | [d] => { results := [.lit (.bool true)], args := [d] }
  | _ => none }
def fnExactCellsTotalRow : OpenClaim := { program := "ytjckikcndoobnaa", sum := "2486450a77e3be699ecf65e95ff54057a84512148ce87ab0e4f58cf47e531c2a", func := "loop.example/g01347/laws.FnExactCellsTotal", spec := "fnExactCellsTotal", apart := false }
def FnExactCellsTotalSaid : Prop := fnExactCellsTotalRow.holds Try.pinned (OpenSpec.ofChange fnExactCellsTotalSpec)

/-- ITS FALSE NEIGHBOUR: 'it returns false'. Refute it at one input. -/
def fnExactCellsTotalWrong : ChangeSpec := { name := "fnExactCellsTotal", fn := fun _ => fun
  | [d] => { results := [.lit (.bool false)], args := [d] }
  | _ => none }
def FnExactCellsTotalWrongFalsely : Prop := fnExactCellsTotalRow.holds Try.pinned (OpenSpec.ofChange fnExactCellsTotalWrong)

/-- 'laws.FnExactMergeCells': WHATEVER THE INPUT: true; the input reads as it did. -/
def fnExactMergeCellsSpec : ChangeSpec := { name := "fnExactMergeCells", fn := fun _ => fun
  | [d1, d2] => { results := [.lit (.bool true)], args := [d1, d2] }
  | _ => none }
def fnExactMergeCellsRow : OpenClaim := { program := "ytjckikcndoobnaa", sum := "2486450a77e3be699ecf65e95ff54057a84512148ce87ab0e4f58cf47e531c2a", func := "loop.example/g01347/laws.FnExactMergeCells", spec := "fnExactMergeCells", apart := false }
def FnExactMergeCellsSaid : Prop := fnExactMergeCellsRow.holds Try.pinned (OpenSpec.ofChange fnExactMergeCellsSpec)

/-- ITS FALSE NEIGHBOUR: 'it returns false'. Refute it at one input. -/
def fnExactMergeCellsWrong : ChangeSpec := { name := "fnExactMergeCells", fn := fun _ => fun
  | [d1, d2] => { results := [.lit (.bool false)], args := [d1, d2] }
  | _ => none }
def FnExactMergeCellsWrongFalsely : Prop := fnExactMergeCellsRow.holds Try.pinned (OpenSpec.ofChange fnExactMergeCellsWrong)

/-- 'laws.FnExactCellsDot': WHATEVER THE INPUT: true; the input reads as it did. -/
def fnExactCellsDotSpec : ChangeSpec := { name := "fnExactCellsDot", fn := fun _ => fun
  | [d1, d2] => { results := [.lit (.bool true)], args := [d1, d2] }
  | _ => none }
def fnExactCellsDotRow : OpenClaim := { program := "ytjckikcndoobnaa", sum := "2486450a77e3be699ecf65e95ff54057a84512148ce87ab0e4f58cf47e531c2a", func := "loop.example/g01347/laws.FnExactCellsDot", spec := "fnExactCellsDot", apart := false }
def FnExactCellsDotSaid : Prop := fnExactCellsDotRow.holds Try.pinned (OpenSpec.ofChange fnExactCellsDotSpec)

/-- ITS FALSE NEIGHBOUR: 'it returns false'. Refute it at one input. -/
def fnExactCellsDotWrong : ChangeSpec := { name := "fnExactCellsDot", fn := fun _ => fun
  | [d1, d2] => { results := [.lit (.bool false)], args := [d1, d2] }
  | _ => none }
def FnExactCellsDotWrongFalsely : Prop := fnExactCellsDotRow.holds Try.pinned (OpenSpec.ofChange fnExactCellsDotWrong)

/-- 'laws.FnExactPutSigned': WHATEVER THE INPUT: true; the input reads as it did. -/
def fnExactPutSignedSpec : ChangeSpec := { name := "fnExactPutSigned", fn := fun _ => fun
  | [d1, d2, d3] => { results := [.lit (.bool true)], args := [d1, d2, d3] }
  | _ => none }
def fnExactPutSignedRow : OpenClaim := { program := "ytjckikcndoobnaa", sum := "2486450a77e3be699ecf65e95ff54057a84512148ce87ab0e4f58cf47e531c2a", func := "loop.example/g01347/laws.FnExactPutSigned", spec := "fnExactPutSigned", unfollowed := true, recurses := true, apart := false }
def FnExactPutSignedSaid : Prop := fnExactPutSignedRow.holds Try.pinned (OpenSpec.ofChange fnExactPutSignedSpec)

/-- ITS FALSE NEIGHBOUR: 'it returns false'. Refute it at one input. -/
def fnExactPutSignedWrong : ChangeSpec := { name := "fnExactPutSigned", fn := fun _ => fun
  | [d1, d2, d3] => { results := [.lit (.bool false)], args := [d1, d2, d3] }
  | _ => none }
def FnExactPutSignedWrongFalsely : Prop := fnExactPutSignedRow.holds Try.pinned (OpenSpec.ofChange fnExactPutSignedWrong)

/-- 'laws.FnExactHeavyLayers': WHATEVER THE INPUT: true; the input reads as it did. -/
def fnExactHeavyLayersSpec : ChangeSpec := { name := "fnExactHeavyLayers", fn := fun _ => fun
  | [d1, d2] => { results := [.lit (.bool true)], args := [d1, d2] }
  | _ => none }
def fnExactHeavyLayersRow : OpenClaim := { program := "ytjckikcndoobnaa", sum := "2486450a77e3be699ecf65e95ff54057a84512148ce87ab0e4f58cf47e531c2a", func := "loop.example/g01347/laws.FnExactHeavyLayers", spec := "fnExactHeavyLayers", apart := false }
def FnExactHeavyLayersSaid : Prop := fnExactHeavyLayersRow.holds Try.pinned (OpenSpec.ofChange fnExactHeavyLayersSpec)

/-- ITS FALSE NEIGHBOUR: 'it returns false'. Refute it at one input. -/
def fnExactHeavyLayersWrong : ChangeSpec := { name := "fnExactHeavyLayers", fn := fun _ => fun
  | [d1, d2] => { results := [.lit (.bool false)], args := [d1, d2] }
  | _ => none }
def FnExactHeavyLayersWrongFalsely : Prop := fnExactHeavyLayersRow.holds Try.pinned (OpenSpec.ofChange fnExactHeavyLayersWrong)

/- THE SECOND FORM. 'bulk': how many values and letters a reading holds, each counted each time it is reached (what is shared counts as often as it is met; a slice's spare places count too). A statement '..UptoSaid' is the law's where the arguments, and the package variables that the reading takes, are together of bulk at most 1048576: NARROWER than '..Said'. Prove '..Said' where nothing that the law and all that it calls make is longer than what came in: it says more and counts as full. Else prove '..UptoSaid'. A law counts once. -/
mutual
def uptoBulk {H : Type} : DataW H → Nat
  | .lit (.string bytes) => bytes.length + 1
  | .lit _ => 1
  | .nil => 1
  | .ptr d => uptoBulk d + 1
  | .slice elems spare => uptoBulkAll elems + uptoBulkAll spare + 1
  | .agg parts => uptoBulkAll parts + 1
  | .iface _ d => uptoBulk d + 1
  | .map entries => uptoBulkEntries entries + 1
  | .held _ => 1
def uptoBulkAll {H : Type} : List (DataW H) → Nat
  | [] => 0
  | d :: r => uptoBulk d + uptoBulkAll r
def uptoBulkEntries {H : Type} : List (Lit × DataW H) → Nat
  | [] => 0
  | x :: r => uptoBulkEntry x + uptoBulkEntries r
def uptoBulkEntry {H : Type} : Lit × DataW H → Nat
  | (.string bytes, d) => bytes.length + uptoBulk d + 1
  | (_, d) => uptoBulk d + 1
 end
def uptoSmall : (H : Type) → List (DataW H) → Bool := fun _ ds => decide (uptoBulkAll ds ≤ 1048576)
def OpenSpec.upto (s : _root_.Go.ChangeSpec) : _root_.Go.OpenSpec := { _root_.Go.OpenSpec.ofChange s with cond := some uptoSmall }

/-- 'laws.FnExactValidCells', WHERE WHAT IT READS IS OF BULK AT MOST 1048576: true; the input reads as it did. -/
def fnExactValidCellsUptoRow : OpenClaim := { program := "ytjckikcndoobnaa", sum := "2486450a77e3be699ecf65e95ff54057a84512148ce87ab0e4f58cf47e531c2a", func := "loop.example/g01347/laws.FnExactValidCells", spec := "fnExactValidCells", apart := false, narrowed := true }
def FnExactValidCellsUptoSaid : Prop := fnExactValidCellsUptoRow.holds Try.pinned (OpenSpec.upto fnExactValidCellsSpec)

/-- 'laws.FnExactSameCells', WHERE WHAT IT READS IS OF BULK AT MOST 1048576: true; the input reads as it did. -/
def fnExactSameCellsUptoRow : OpenClaim := { program := "ytjckikcndoobnaa", sum := "2486450a77e3be699ecf65e95ff54057a84512148ce87ab0e4f58cf47e531c2a", func := "loop.example/g01347/laws.FnExactSameCells", spec := "fnExactSameCells", apart := false, narrowed := true }
def FnExactSameCellsUptoSaid : Prop := fnExactSameCellsUptoRow.holds Try.pinned (OpenSpec.upto fnExactSameCellsSpec)

/-- 'laws.FnExactNewCells', WHERE WHAT IT READS IS OF BULK AT MOST 1048576: true; the input reads as it did. -/
def fnExactNewCellsUptoRow : OpenClaim := { program := "ytjckikcndoobnaa", sum := "2486450a77e3be699ecf65e95ff54057a84512148ce87ab0e4f58cf47e531c2a", func := "loop.example/g01347/laws.FnExactNewCells", spec := "fnExactNewCells", apart := false, narrowed := true }
def FnExactNewCellsUptoSaid : Prop := fnExactNewCellsUptoRow.holds Try.pinned (OpenSpec.upto fnExactNewCellsSpec)

/-- 'laws.FnExactPlacesOf', WHERE WHAT IT READS IS OF BULK AT MOST 1048576: true; the input reads as it did. -/
def fnExactPlacesOfUptoRow : OpenClaim := { program := "ytjckikcndoobnaa", sum := "2486450a77e3be699ecf65e95ff54057a84512148ce87ab0e4f58cf47e531c2a", func := "loop.example/g01347/laws.FnExactPlacesOf", spec := "fnExactPlacesOf", apart := false, narrowed := true }
def FnExactPlacesOfUptoSaid : Prop := fnExactPlacesOfUptoRow.holds Try.pinned (OpenSpec.upto fnExactPlacesOfSpec)

/-- 'laws.FnExactPutCells', WHERE WHAT IT READS IS OF BULK AT MOST 1048576: true; the input reads as it did. -/
def fnExactPutCellsUptoRow : OpenClaim := { program := "ytjckikcndoobnaa", sum := "2486450a77e3be699ecf65e95ff54057a84512148ce87ab0e4f58cf47e531c2a", func := "loop.example/g01347/laws.FnExactPutCells", spec := "fnExactPutCells", unfollowed := true, recurses := true, apart := false, narrowed := true }
def FnExactPutCellsUptoSaid : Prop := fnExactPutCellsUptoRow.holds Try.pinned (OpenSpec.upto fnExactPutCellsSpec)

/-- 'laws.FnExactPutCareful', WHERE WHAT IT READS IS OF BULK AT MOST 1048576: true; the input reads as it did. -/
def fnExactPutCarefulUptoRow : OpenClaim := { program := "ytjckikcndoobnaa", sum := "2486450a77e3be699ecf65e95ff54057a84512148ce87ab0e4f58cf47e531c2a", func := "loop.example/g01347/laws.FnExactPutCareful", spec := "fnExactPutCareful", unfollowed := true, recurses := true, apart := false, narrowed := true }
def FnExactPutCarefulUptoSaid : Prop := fnExactPutCarefulUptoRow.holds Try.pinned (OpenSpec.upto fnExactPutCarefulSpec)

/-- 'laws.FnExactCellsAt', WHERE WHAT IT READS IS OF BULK AT MOST 1048576: true; the input reads as it did. -/
def fnExactCellsAtUptoRow : OpenClaim := { program := "ytjckikcndoobnaa", sum := "2486450a77e3be699ecf65e95ff54057a84512148ce87ab0e4f58cf47e531c2a", func := "loop.example/g01347/laws.FnExactCellsAt", spec := "fnExactCellsAt", apart := false, narrowed := true }
def FnExactCellsAtUptoSaid : Prop := fnExactCellsAtUptoRow.holds Try.pinned (OpenSpec.upto fnExactCellsAtSpec)

/-- 'laws.FnExactCellsTotal', WHERE WHAT IT READS IS OF BULK AT MOST 1048576: true; the input reads as it did. -/
def fnExactCellsTotalUptoRow : OpenClaim := { program := "ytjckikcndoobnaa", sum := "2486450a77e3be699ecf65e95ff54057a84512148ce87ab0e4f58cf47e531c2a", func := "loop.example/g01347/laws.FnExactCellsTotal", spec := "fnExactCellsTotal", apart := false, narrowed := true }
def FnExactCellsTotalUptoSaid : Prop := fnExactCellsTotalUptoRow.holds Try.pinned (OpenSpec.upto fnExactCellsTotalSpec)

/-- 'laws.FnExactMergeCells', WHERE WHAT IT READS IS OF BULK AT MOST 1048576: true; the input reads as it did. -/
def fnExactMergeCellsUptoRow : OpenClaim := { program := "ytjckikcndoobnaa", sum := "2486450a77e3be699ecf65e95ff54057a84512148ce87ab0e4f58cf47e531c2a", func := "loop.example/g01347/laws.FnExactMergeCells", spec := "fnExactMergeCells", apart := false, narrowed := true }
def FnExactMergeCellsUptoSaid : Prop := fnExactMergeCellsUptoRow.holds Try.pinned (OpenSpec.upto fnExactMergeCellsSpec)

/-- 'laws.FnExactCellsDot', WHERE WHAT IT READS IS OF BULK AT MOST 1048576: true; the input reads as it did. -/
def fnExactCellsDotUptoRow : OpenClaim := { program := "ytjckikcndoobnaa", sum := "2486450a77e3be699ecf65e95ff54057a84512148ce87ab0e4f58cf47e531c2a", func := "loop.example/g01347/laws.FnExactCellsDot", spec := "fnExactCellsDot", apart := false, narrowed := true }
def FnExactCellsDotUptoSaid : Prop := fnExactCellsDotUptoRow.holds Try.pinned (OpenSpec.upto fnExactCellsDotSpec)

/-- 'laws.FnExactPutSigned', WHERE WHAT IT READS IS OF BULK AT MOST 1048576: true; the input reads as it did. -/
def fnExactPutSignedUptoRow : OpenClaim := { program := "ytjckikcndoobnaa", sum := "2486450a77e3be699ecf65e95ff54057a84512148ce87ab0e4f58cf47e531c2a", func := "loop.example/g01347/laws.FnExactPutSigned", spec := "fnExactPutSigned", unfollowed := true, recurses := true, apart := false, narrowed := true }
def FnExactPutSignedUptoSaid : Prop := fnExactPutSignedUptoRow.holds Try.pinned (OpenSpec.upto fnExactPutSignedSpec)

/-- 'laws.FnExactHeavyLayers', WHERE WHAT IT READS IS OF BULK AT MOST 1048576: true; the input reads as it did. -/
def fnExactHeavyLayersUptoRow : OpenClaim := { program := "ytjckikcndoobnaa", sum := "2486450a77e3be699ecf65e95ff54057a84512148ce87ab0e4f58cf47e531c2a", func := "loop.example/g01347/laws.FnExactHeavyLayers", spec := "fnExactHeavyLayers", apart := false, narrowed := true }
def FnExactHeavyLayersUptoSaid : Prop := fnExactHeavyLayersUptoRow.holds Try.pinned (OpenSpec.upto fnExactHeavyLayersSpec)

end Rows
end Go.Proofs.Ytjckikcndoobnaa
