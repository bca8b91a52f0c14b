/-
  No cell of these rows narrows 'for every input' (looked for: loops, veiled, ifaces, maps, wideKeys, modest, calm, conditions, laid).
  DERIVED. THE GIVEN ROWS OF THIS SEAT. 12 by the template 'for every input the law returns true; each argument reads behind the call as it read before'; 0 by the template 'total and deterministic' (their statements: YtfolflkbpdbkcacTotals.lean).
  GIVEN WITH THE SEED: the statements are not yours to turn. If you find one false, say at which input.
  Laid BY PROGRAM, IN A SANDBOX (cutbox-rows.mjs): the forced cells as the released guide's own fill.sh prints them over the translation e90103d9c3d7c6a6… (all of the seat's roots in one cut). By AI agents, Wed Nov 11 2026. No macro, syntax, notation, axiom, sorry.
-/
import Derived.Test.YtfolflkbpdbkcacChecked
import GoSem.Claim
import GoSem.ClaimJoined
import GoSem.ClaimMapViews
import Derived.JoinedTies
import Derived.KernelRfl
namespace Go.Proofs.Ytfolflkbpdbkcac
/- THE CELL 'sum', in the pinned program and in every row, IS THE sha256 OF THE DUMP (.gsa) THAT YtfolflkbpdbkcacProg.lean LOADS. Nothing in Lean hashes anything: it is a label: what it is worth is what the hold of that sum in a sandbox is worth. -/
noncomputable def Try.pinned : Pinned := { name := "ytfolflkbpdbkcac", sum := "e90103d9c3d7c6a6ab7330399dbc1f4ed4afbd188e2940e300175933ff9b2c26", checked := Try.checked }
namespace Rows
def none {H : Type} : Left H := { results := [], args := [] }

/-- 'laws.FnExactLeastHashes': WHATEVER THE INPUT: true; the input reads as it did. -/
def fnExactLeastHashesSpec : ChangeSpec := { name := "fnExactLeastHashes", fn := fun _ => fun
  | [d1, d2, d3] => { results := [.lit (.bool true)], args := [d1, d2, d3] }
  | _ => none }
def fnExactLeastHashesRow : OpenClaim := { program := "ytfolflkbpdbkcac", sum := "e90103d9c3d7c6a6ab7330399dbc1f4ed4afbd188e2940e300175933ff9b2c26", func := "loop.example/g01347/laws.FnExactLeastHashes", spec := "fnExactLeastHashes", recurses := true, apart := false }
def FnExactLeastHashesSaid : Prop := fnExactLeastHashesRow.holds Try.pinned (OpenSpec.ofChange fnExactLeastHashesSpec)

/-- ITS FALSE NEIGHBOUR: 'it returns false'. Refute it at one input. -/
def fnExactLeastHashesWrong : ChangeSpec := { name := "fnExactLeastHashes", fn := fun _ => fun
  | [d1, d2, d3] => { results := [.lit (.bool false)], args := [d1, d2, d3] }
  | _ => none }
def FnExactLeastHashesWrongFalsely : Prop := fnExactLeastHashesRow.holds Try.pinned (OpenSpec.ofChange fnExactLeastHashesWrong)

/-- 'laws.FnExactJoinLeast': WHATEVER THE INPUT: true; the input reads as it did. -/
def fnExactJoinLeastSpec : ChangeSpec := { name := "fnExactJoinLeast", fn := fun _ => fun
  | [d1, d2, d3] => { results := [.lit (.bool true)], args := [d1, d2, d3] }
  | _ => none }
def fnExactJoinLeastRow : OpenClaim := { program := "ytfolflkbpdbkcac", sum := "e90103d9c3d7c6a6ab7330399dbc1f4ed4afbd188e2940e300175933ff9b2c26", func := "loop.example/g01347/laws.FnExactJoinLeast", spec := "fnExactJoinLeast", recurses := true, apart := false }
def FnExactJoinLeastSaid : Prop := fnExactJoinLeastRow.holds Try.pinned (OpenSpec.ofChange fnExactJoinLeastSpec)

/-- ITS FALSE NEIGHBOUR: 'it returns false'. Refute it at one input. -/
def fnExactJoinLeastWrong : ChangeSpec := { name := "fnExactJoinLeast", fn := fun _ => fun
  | [d1, d2, d3] => { results := [.lit (.bool false)], args := [d1, d2, d3] }
  | _ => none }
def FnExactJoinLeastWrongFalsely : Prop := fnExactJoinLeastRow.holds Try.pinned (OpenSpec.ofChange fnExactJoinLeastWrong)

/-- 'laws.FnExactCountOfLeast': WHATEVER THE INPUT: true; the input reads as it did. -/
def fnExactCountOfLeastSpec : ChangeSpec := { name := "fnExactCountOfLeast", fn := fun _ => fun
  | [d1, d2] => { results := [.lit (.bool true)], args := [d1, d2] }
  | _ => none }
def fnExactCountOfLeastRow : OpenClaim := { program := "ytfolflkbpdbkcac", sum := "e90103d9c3d7c6a6ab7330399dbc1f4ed4afbd188e2940e300175933ff9b2c26", func := "loop.example/g01347/laws.FnExactCountOfLeast", spec := "fnExactCountOfLeast", apart := false }
def FnExactCountOfLeastSaid : Prop := fnExactCountOfLeastRow.holds Try.pinned (OpenSpec.ofChange fnExactCountOfLeastSpec)

/-- ITS FALSE NEIGHBOUR: 'it returns false'. Refute it at one input. -/
def fnExactCountOfLeastWrong : ChangeSpec := { name := "fnExactCountOfLeast", fn := fun _ => fun
  | [d1, d2] => { results := [.lit (.bool false)], args := [d1, d2] }
  | _ => none }
def FnExactCountOfLeastWrongFalsely : Prop := fnExactCountOfLeastRow.holds Try.pinned (OpenSpec.ofChange fnExactCountOfLeastWrong)

/-- 'laws.FnExactMeetOfLeast': WHATEVER THE INPUT: true; the input reads as it did. -/
def fnExactMeetOfLeastSpec : ChangeSpec := { name := "fnExactMeetOfLeast", fn := fun _ => fun
  | [d1, d2, d3] => { results := [.lit (.bool true)], args := [d1, d2, d3] }
  | _ => none }
def fnExactMeetOfLeastRow : OpenClaim := { program := "ytfolflkbpdbkcac", sum := "e90103d9c3d7c6a6ab7330399dbc1f4ed4afbd188e2940e300175933ff9b2c26", func := "loop.example/g01347/laws.FnExactMeetOfLeast", spec := "fnExactMeetOfLeast", recurses := true, apart := false }
def FnExactMeetOfLeastSaid : Prop := fnExactMeetOfLeastRow.holds Try.pinned (OpenSpec.ofChange fnExactMeetOfLeastSpec)

/-- ITS FALSE NEIGHBOUR: 'it returns false'. Refute it at one input. -/
def fnExactMeetOfLeastWrong : ChangeSpec := { name := "fnExactMeetOfLeast", fn := fun _ => fun
  | [d1, d2, d3] => { results := [.lit (.bool false)], args := [d1, d2, d3] }
  | _ => none }
def FnExactMeetOfLeastWrongFalsely : Prop := fnExactMeetOfLeastRow.holds Try.pinned (OpenSpec.ofChange fnExactMeetOfLeastWrong)

/-- 'laws.FnExactPeelCells': WHATEVER THE INPUT: true; the input reads as it did. -/
def fnExactPeelCellsSpec : ChangeSpec := { name := "fnExactPeelCells", fn := fun _ => fun
  | [d1, d2, d3] => { results := [.lit (.bool true)], args := [d1, d2, d3] }
  | _ => none }
def fnExactPeelCellsRow : OpenClaim := { program := "ytfolflkbpdbkcac", sum := "e90103d9c3d7c6a6ab7330399dbc1f4ed4afbd188e2940e300175933ff9b2c26", func := "loop.example/g01347/laws.FnExactPeelCells", spec := "fnExactPeelCells", unfollowed := true, recurses := true, apart := false }
def FnExactPeelCellsSaid : Prop := fnExactPeelCellsRow.holds Try.pinned (OpenSpec.ofChange fnExactPeelCellsSpec)

/-- ITS FALSE NEIGHBOUR: 'it returns false'. Refute it at one input. -/
def fnExactPeelCellsWrong : ChangeSpec := { name := "fnExactPeelCells", fn := fun _ => fun
  | [d1, d2, d3] => { results := [.lit (.bool false)], args := [d1, d2, d3] }
  | _ => none }
def FnExactPeelCellsWrongFalsely : Prop := fnExactPeelCellsRow.holds Try.pinned (OpenSpec.ofChange fnExactPeelCellsWrong)

/-- 'laws.FnExactNewLayers': WHATEVER THE INPUT: true; the input reads as it did. -/
def fnExactNewLayersSpec : ChangeSpec := { name := "fnExactNewLayers", fn := fun _ => fun
  | [d1, d2, d3] => { results := [.lit (.bool true)], args := [d1, d2, d3] }
  | _ => none }
def fnExactNewLayersRow : OpenClaim := { program := "ytfolflkbpdbkcac", sum := "e90103d9c3d7c6a6ab7330399dbc1f4ed4afbd188e2940e300175933ff9b2c26", func := "loop.example/g01347/laws.FnExactNewLayers", spec := "fnExactNewLayers", apart := false }
def FnExactNewLayersSaid : Prop := fnExactNewLayersRow.holds Try.pinned (OpenSpec.ofChange fnExactNewLayersSpec)

/-- ITS FALSE NEIGHBOUR: 'it returns false'. Refute it at one input. -/
def fnExactNewLayersWrong : ChangeSpec := { name := "fnExactNewLayers", fn := fun _ => fun
  | [d1, d2, d3] => { results := [.lit (.bool false)], args := [d1, d2, d3] }
  | _ => none }
def FnExactNewLayersWrongFalsely : Prop := fnExactNewLayersRow.holds Try.pinned (OpenSpec.ofChange fnExactNewLayersWrong)

/-- 'laws.FnExactPutLayers': WHATEVER THE INPUT: true; the input reads as it did. -/
def fnExactPutLayersSpec : ChangeSpec := { name := "fnExactPutLayers", fn := fun _ => fun
  | [d1, d2, d3] => { results := [.lit (.bool true)], args := [d1, d2, d3] }
  | _ => none }
def fnExactPutLayersRow : OpenClaim := { program := "ytfolflkbpdbkcac", sum := "e90103d9c3d7c6a6ab7330399dbc1f4ed4afbd188e2940e300175933ff9b2c26", func := "loop.example/g01347/laws.FnExactPutLayers", spec := "fnExactPutLayers", unfollowed := true, recurses := true, apart := false }
def FnExactPutLayersSaid : Prop := fnExactPutLayersRow.holds Try.pinned (OpenSpec.ofChange fnExactPutLayersSpec)

/-- ITS FALSE NEIGHBOUR: 'it returns false'. Refute it at one input. -/
def fnExactPutLayersWrong : ChangeSpec := { name := "fnExactPutLayers", fn := fun _ => fun
  | [d1, d2, d3] => { results := [.lit (.bool false)], args := [d1, d2, d3] }
  | _ => none }
def FnExactPutLayersWrongFalsely : Prop := fnExactPutLayersRow.holds Try.pinned (OpenSpec.ofChange fnExactPutLayersWrong)

/-- 'laws.FnExactHeavyLayers': WHATEVER THE INPUT: true; the input reads as it did. -/
def fnExactHeavyLayersSpec : ChangeSpec := { name := "fnExactHeavyLayers", fn := fun _ => fun
  | [d1, d2] => { results := [.lit (.bool true)], args := [d1, d2] }
  | _ => none }
def fnExactHeavyLayersRow : OpenClaim := { program := "ytfolflkbpdbkcac", sum := "e90103d9c3d7c6a6ab7330399dbc1f4ed4afbd188e2940e300175933ff9b2c26", func := "loop.example/g01347/laws.FnExactHeavyLayers", spec := "fnExactHeavyLayers", apart := false }
def FnExactHeavyLayersSaid : Prop := fnExactHeavyLayersRow.holds Try.pinned (OpenSpec.ofChange fnExactHeavyLayersSpec)

/-- ITS FALSE NEIGHBOUR: 'it returns false'. Refute it at one input. -/
def fnExactHeavyLayersWrong : ChangeSpec := { name := "fnExactHeavyLayers", fn := fun _ => fun
  | [d1, d2] => { results := [.lit (.bool false)], args := [d1, d2] }
  | _ => none }
def FnExactHeavyLayersWrongFalsely : Prop := fnExactHeavyLayersRow.holds Try.pinned (OpenSpec.ofChange fnExactHeavyLayersWrong)

/-- 'laws.FnExactMergeCells': WHATEVER THE INPUT: true; the input reads as it did. -/
def fnExactMergeCellsSpec : ChangeSpec := { name := "fnExactMergeCells", fn := fun _ => fun
  | [d1, d2] => { results := [.lit (.bool true)], args := [d1, d2] }
  | _ => none }
def fnExactMergeCellsRow : OpenClaim := { program := "ytfolflkbpdbkcac", sum := "e90103d9c3d7c6a6ab7330399dbc1f4ed4afbd188e2940e300175933ff9b2c26", func := "loop.example/g01347/laws.FnExactMergeCells", spec := "fnExactMergeCells", apart := false }
def FnExactMergeCellsSaid : Prop := fnExactMergeCellsRow.holds Try.pinned (OpenSpec.ofChange fnExactMergeCellsSpec)

/-- ITS FALSE NEIGHBOUR: 'it returns false'. Refute it at one input. -/
def fnExactMergeCellsWrong : ChangeSpec := { name := "fnExactMergeCells", fn := fun _ => fun
  | [d1, d2] => { results := [.lit (.bool false)], args := [d1, d2] }
  | _ => none }
def FnExactMergeCellsWrongFalsely : Prop := fnExactMergeCellsRow.holds Try.pinned (OpenSpec.ofChange fnExactMergeCellsWrong)

/-- 'laws.FnExactCorrectedAt': WHATEVER THE INPUT: true; the input reads as it did. -/
def fnExactCorrectedAtSpec : ChangeSpec := { name := "fnExactCorrectedAt", fn := fun _ => fun
  | [d1, d2] => { results := [.lit (.bool true)], args := [d1, d2] }
  | _ => none }
def fnExactCorrectedAtRow : OpenClaim := { program := "ytfolflkbpdbkcac", sum := "e90103d9c3d7c6a6ab7330399dbc1f4ed4afbd188e2940e300175933ff9b2c26", func := "loop.example/g01347/laws.FnExactCorrectedAt", spec := "fnExactCorrectedAt", unfollowed := true, recurses := true, apart := false }
def FnExactCorrectedAtSaid : Prop := fnExactCorrectedAtRow.holds Try.pinned (OpenSpec.ofChange fnExactCorrectedAtSpec)

/-- ITS FALSE NEIGHBOUR: 'it returns false'. Refute it at one input. -/
def fnExactCorrectedAtWrong : ChangeSpec := { name := "fnExactCorrectedAt", fn := fun _ => fun
  | [d1, d2] => { results := [.lit (.bool false)], args := [d1, d2] }
  | _ => none }
def FnExactCorrectedAtWrongFalsely : Prop := fnExactCorrectedAtRow.holds Try.pinned (OpenSpec.ofChange fnExactCorrectedAtWrong)

/-- 'laws.FnExactExactCounts': WHATEVER THE INPUT: true; the input reads as it did. -/
def fnExactExactCountsSpec : ChangeSpec := { name := "fnExactExactCounts", fn := fun _ => fun
  | [d] => { results := [.lit (.bool true)], args := [d] }
  | _ => none }
def fnExactExactCountsRow : OpenClaim := { program := "ytfolflkbpdbkcac", sum := "e90103d9c3d7c6a6ab7330399dbc1f4ed4afbd188e2940e300175933ff9b2c26", func := "loop.example/g01347/laws.FnExactExactCounts", spec := "fnExactExactCounts", unfollowed := true, recurses := true, apart := false }
def FnExactExactCountsSaid : Prop := fnExactExactCountsRow.holds Try.pinned (OpenSpec.ofChange fnExactExactCountsSpec)

/-- ITS FALSE NEIGHBOUR: 'it returns false'. Refute it at one input. -/
def fnExactExactCountsWrong : ChangeSpec := { name := "fnExactExactCounts", fn := fun _ => fun
  | [d] => { results := [.lit (.bool false)], args := [d] }
  | _ => none }
def FnExactExactCountsWrongFalsely : Prop := fnExactExactCountsRow.holds Try.pinned (OpenSpec.ofChange fnExactExactCountsWrong)

/-- 'laws.FnExactValidTops': WHATEVER THE INPUT: true; the input reads as it did. -/
def fnExactValidTopsSpec : ChangeSpec := { name := "fnExactValidTops", fn := fun _ => fun
  | [d] => { results := [.lit (.bool true)], args := [d] }
  | _ => none }
def fnExactValidTopsRow : OpenClaim := { program := "ytfolflkbpdbkcac", sum := "e90103d9c3d7c6a6ab7330399dbc1f4ed4afbd188e2940e300175933ff9b2c26", func := "loop.example/g01347/laws.FnExactValidTops", spec := "fnExactValidTops", apart := false }
def FnExactValidTopsSaid : Prop := fnExactValidTopsRow.holds Try.pinned (OpenSpec.ofChange fnExactValidTopsSpec)

/-- ITS FALSE NEIGHBOUR: 'it returns false'. Refute it at one input. -/
def fnExactValidTopsWrong : ChangeSpec := { name := "fnExactValidTops", fn := fun _ => fun
  | [d] => { results := [.lit (.bool false)], args := [d] }
  | _ => none }
def FnExactValidTopsWrongFalsely : Prop := fnExactValidTopsRow.holds Try.pinned (OpenSpec.ofChange fnExactValidTopsWrong)

/- THE SECOND FORM. 'bulk': how many values and letters a reading holds, each counted each time it is reached (what is shared counts as often as it is met; a slice's spare places count too). A statement '..UptoSaid' is the law's where the arguments, and the package variables that the reading takes, are together of bulk at most 1048576: NARROWER than '..Said'. Prove '..Said' where nothing that the law and all that it calls make is longer than what came in: it says more and counts as full. Else prove '..UptoSaid'. A law counts once. -/
mutual
def uptoBulk {H : Type} : DataW H → Nat
  | .lit (.string bytes) => bytes.length + 1
  | .lit _ => 1
  | .nil => 1
  | .ptr d => uptoBulk d + 1
  | .slice elems spare => uptoBulkAll elems + uptoBulkAll spare + 1
  | .agg parts => uptoBulkAll parts + 1
  | .iface _ d => uptoBulk d + 1
  | .map entries => uptoBulkEntries entries + 1
  | .held _ => 1
def uptoBulkAll {H : Type} : List (DataW H) → Nat
  | [] => 0
  | d :: r => uptoBulk d + uptoBulkAll r
def uptoBulkEntries {H : Type} : List (Lit × DataW H) → Nat
  | [] => 0
  | x :: r => uptoBulkEntry x + uptoBulkEntries r
def uptoBulkEntry {H : Type} : Lit × DataW H → Nat
  | (.string bytes, d) => bytes.length + uptoBulk d + 1
  | (_, d) => uptoBulk d + 1
 end
def uptoSmall : (H : Type) → List (DataW H) → Bool := fun _ ds => decide (uptoBulkAll ds ≤ 1048576)
def OpenSpec.upto (s : _root_.Go.ChangeSpec) : _root_.Go.OpenSpec := { _root_.Go.OpenSpec.ofChange s with cond := some uptoSmall }

/-- 'laws.FnExactLeastHashes', WHERE WHAT IT READS IS OF BULK AT MOST 1048576: true; the input reads as it did. -/
def fnExactLeastHashesUptoRow : OpenClaim := { program := "ytfolflkbpdbkcac", sum := "e90103d9c3d7c6a6ab7330399dbc1f4ed4afbd188e2940e300175933ff9b2c26", func := "loop.example/g01347/laws.FnExactLeastHashes", spec := "fnExactLeastHashes", recurses := true, apart := false, narrowed := true }
def FnExactLeastHashesUptoSaid : Prop := fnExactLeastHashesUptoRow.holds Try.pinned (OpenSpec.upto fnExactLeastHashesSpec)

/-- 'laws.FnExactJoinLeast', WHERE WHAT IT READS IS OF BULK AT MOST 1048576: true; the input reads as it did. -/
def fnExactJoinLeastUptoRow : OpenClaim := { program := "ytfolflkbpdbkcac", sum := "e90103d9c3d7c6a6ab7330399dbc1f4ed4afbd188e2940e300175933ff9b2c26", func := "loop.example/g01347/laws.FnExactJoinLeast", spec := "fnExactJoinLeast", recurses := true, apart := false, narrowed := true }
def FnExactJoinLeastUptoSaid : Prop := fnExactJoinLeastUptoRow.holds Try.pinned (OpenSpec.upto fnExactJoinLeastSpec)

/-- 'laws.FnExactCountOfLeast', WHERE WHAT IT READS IS OF BULK AT MOST 1048576: true; the input reads as it did. -/
def fnExactCountOfLeastUptoRow : OpenClaim := { program := "ytfolflkbpdbkcac", sum := "e90103d9c3d7c6a6ab7330399dbc1f4ed4afbd188e2940e300175933ff9b2c26", func := "loop.example/g01347/laws.FnExactCountOfLeast", spec := "fnExactCountOfLeast", apart := false, narrowed := true }
def FnExactCountOfLeastUptoSaid : Prop := fnExactCountOfLeastUptoRow.holds Try.pinned (OpenSpec.upto fnExactCountOfLeastSpec)

/-- 'laws.FnExactMeetOfLeast', WHERE WHAT IT READS IS OF BULK AT MOST 1048576: true; the input reads as it did. -/
def fnExactMeetOfLeastUptoRow : OpenClaim := { program := "ytfolflkbpdbkcac", sum := "e90103d9c3d7c6a6ab7330399dbc1f4ed4afbd188e2940e300175933ff9b2c26", func := "loop.example/g01347/laws.FnExactMeetOfLeast", spec := "fnExactMeetOfLeast", recurses := true, apart := false, narrowed := true }
def FnExactMeetOfLeastUptoSaid : Prop := fnExactMeetOfLeastUptoRow.holds Try.pinned (OpenSpec.upto fnExactMeetOfLeastSpec)

/-- 'laws.FnExactPeelCells', WHERE WHAT IT READS IS OF BULK AT MOST 1048576: true; the input reads as it did. -/
def fnExactPeelCellsUptoRow : OpenClaim := { program := "ytfolflkbpdbkcac", sum := "e90103d9c3d7c6a6ab7330399dbc1f4ed4afbd188e2940e300175933ff9b2c26", func := "loop.example/g01347/laws.FnExactPeelCells", spec := "fnExactPeelCells", unfollowed := true, recurses := true, apart := false, narrowed := true }
def FnExactPeelCellsUptoSaid : Prop := fnExactPeelCellsUptoRow.holds Try.pinned (OpenSpec.upto fnExactPeelCellsSpec)

/-- 'laws.FnExactNewLayers', WHERE WHAT IT READS IS OF BULK AT MOST 1048576: true; the input reads as it did. -/
def fnExactNewLayersUptoRow : OpenClaim := { program := "ytfolflkbpdbkcac", sum := "e90103d9c3d7c6a6ab7330399dbc1f4ed4afbd188e2940e300175933ff9b2c26", func := "loop.example/g01347/laws.FnExactNewLayers", spec := "fnExactNewLayers", apart := false, narrowed := true }
def FnExactNewLayersUptoSaid : Prop := fnExactNewLayersUptoRow.holds Try.pinned (OpenSpec.upto fnExactNewLayersSpec)

/-- 'laws.FnExactPutLayers', WHERE WHAT IT READS IS OF BULK AT MOST 1048576: true; the input reads as it did. -/
def fnExactPutLayersUptoRow : OpenClaim := { program := "ytfolflkbpdbkcac", sum := "e90103d9c3d7c6a6ab7330399dbc1f4ed4afbd188e2940e300175933ff9b2c26", func := "loop.example/g01347/laws.FnExactPutLayers", spec := "fnExactPutLayers", unfollowed := true, recurses := true, apart := false, narrowed := true }
def FnExactPutLayersUptoSaid : Prop := fnExactPutLayersUptoRow.holds Try.pinned (OpenSpec.upto fnExactPutLayersSpec)

/-- 'laws.FnExactHeavyLayers', WHERE WHAT IT READS IS OF BULK AT MOST 1048576: true; the input reads as it did. -/
def fnExactHeavyLayersUptoRow : OpenClaim := { program := "ytfolflkbpdbkcac", sum := "e90103d9c3d7c6a6ab7330399dbc1f4ed4afbd188e2940e300175933ff9b2c26", func := "loop.example/g01347/laws.FnExactHeavyLayers", spec := "fnExactHeavyLayers", apart := false, narrowed := true }
def FnExactHeavyLayersUptoSaid : Prop := fnExactHeavyLayersUptoRow.holds Try.pinned (OpenSpec.upto fnExactHeavyLayersSpec)

/-- 'laws.FnExactMergeCells', WHERE WHAT IT READS IS OF BULK AT MOST 1048576: true; the input reads as it did. -/
def fnExactMergeCellsUptoRow : OpenClaim := { program := "ytfolflkbpdbkcac", sum := "e90103d9c3d7c6a6ab7330399dbc1f4ed4afbd188e2940e300175933ff9b2c26", func := "loop.example/g01347/laws.FnExactMergeCells", spec := "fnExactMergeCells", apart := false, narrowed := true }
def FnExactMergeCellsUptoSaid : Prop := fnExactMergeCellsUptoRow.holds Try.pinned (OpenSpec.upto fnExactMergeCellsSpec)

/-- 'laws.FnExactCorrectedAt', WHERE WHAT IT READS IS OF BULK AT MOST 1048576: true; the input reads as it did. -/
def fnExactCorrectedAtUptoRow : OpenClaim := { program := "ytfolflkbpdbkcac", sum := "e90103d9c3d7c6a6ab7330399dbc1f4ed4afbd188e2940e300175933ff9b2c26", func := "loop.example/g01347/laws.FnExactCorrectedAt", spec := "fnExactCorrectedAt", unfollowed := true, recurses := true, apart := false, narrowed := true }
def FnExactCorrectedAtUptoSaid : Prop := fnExactCorrectedAtUptoRow.holds Try.pinned (OpenSpec.upto fnExactCorrectedAtSpec)

/-- 'laws.FnExactExactCounts', WHERE WHAT IT READS IS OF BULK AT MOST 1048576: true; the input reads as it did. -/
def fnExactExactCountsUptoRow : OpenClaim := { program := "ytfolflkbpdbkcac", sum := "e90103d9c3d7c6a6ab7330399dbc1f4ed4afbd188e2940e300175933ff9b2c26", func := "loop.example/g01347/laws.FnExactExactCounts", spec := "fnExactExactCounts", unfollowed := true, recurses := true, apart := false, narrowed := true }
def FnExactExactCountsUptoSaid : Prop := fnExactExactCountsUptoRow.holds Try.pinned (OpenSpec.upto fnExactExactCountsSpec)

/-- 'laws.FnExactValidTops', WHERE WHAT IT READS IS OF BULK AT MOST 1048576: true; the input reads as it did. -/
def fnExactValidTopsUptoRow : OpenClaim := { program := "ytfolflkbpdbkcac", sum := "e90103d9c3d7c6a6ab7330399dbc1f4ed4afbd188e2940e300175933ff9b2c26", func := "loop.example/g01347/laws.FnExactValidTops", spec := "fnExactValidTops", apart := false, narrowed := true }
def FnExactValidTopsUptoSaid : Prop := fnExactValidTopsUptoRow.holds Try.pinned (OpenSpec.upto fnExactValidTopsSpec)

end Rows
end Go.Proofs.Ytfolflkbpdbkcac
