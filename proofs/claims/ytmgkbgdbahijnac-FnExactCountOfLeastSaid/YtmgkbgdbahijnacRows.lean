/-
  No cell of these rows narrows 'for every input' (looked for: loops, veiled, ifaces, maps, wideKeys, modest, calm, conditions, laid).
  DERIVED. THE GIVEN ROWS OF THIS SEAT. 12 by the template 'for every input the law returns true; each argument reads behind the call as it read before'; 0 by the template 'total and deterministic' (their statements: YtmgkbgdbahijnacTotals.lean).
  GIVEN WITH THE SEED: the statements are not yours to turn. If you find one false, say at which input.
  Laid BY PROGRAM, IN A SANDBOX (cutbox-rows.mjs): the forced cells as the released guide's own fill.sh prints them over the translation 5556b77a8a78f062… (all of the seat's roots in one cut). By AI agents, Wed Nov 11 2026. No macro, syntax, notation, axiom, sorry.
-/
import Derived.Test.YtmgkbgdbahijnacChecked
import GoSem.Claim
import GoSem.ClaimJoined
import GoSem.ClaimMapViews
import Derived.JoinedTies
import Derived.KernelRfl
namespace Go.Proofs.Ytmgkbgdbahijnac
/- THE CELL 'sum', in the pinned program and in every row, IS THE sha256 OF THE DUMP (.gsa) THAT YtmgkbgdbahijnacProg.lean LOADS. Nothing in Lean hashes anything: it is a label: what it is worth is what the hold of that sum in a sandbox is worth. -/
noncomputable def Try.pinned : Pinned := { name := "ytmgkbgdbahijnac", sum := "5556b77a8a78f062192bae83635e3c517b20925bf4ed9bd25ee518174c23a63e", checked := Try.checked }
namespace Rows
def none {H : Type} : Left H := { results := [], args := [] }

/-- 'laws.FnExactValidFingers': WHATEVER THE INPUT: true; the input reads as it did. -/
def fnExactValidFingersSpec : ChangeSpec := { name := "fnExactValidFingers", fn := fun _ => fun
  | [d] => { results := [.lit (.bool true)], args := [d] }
  | _ => none }
def fnExactValidFingersRow : OpenClaim := { program := "ytmgkbgdbahijnac", sum := "5556b77a8a78f062192bae83635e3c517b20925bf4ed9bd25ee518174c23a63e", func := "loop.example/g01347/laws.FnExactValidFingers", spec := "fnExactValidFingers", apart := false }
def FnExactValidFingersSaid : Prop := fnExactValidFingersRow.holds Try.pinned (OpenSpec.ofChange fnExactValidFingersSpec)

/-- ITS FALSE NEIGHBOUR: 'it returns false'. Refute it at one input. -/
def fnExactValidFingersWrong : ChangeSpec := { name := "fnExactValidFingers", fn := fun _ => fun
  | [d] => { results := [.lit (.bool false)], args := [d] }
  | _ => none }
def FnExactValidFingersWrongFalsely : Prop := fnExactValidFingersRow.holds Try.pinned (OpenSpec.ofChange fnExactValidFingersWrong)

/-- 'laws.FnExactPutFinger': WHATEVER THE INPUT: true; the input reads as it did. -/
def fnExactPutFingerSpec : ChangeSpec := { name := "fnExactPutFinger", fn := fun _ => fun
  | [d1, d2] => { results := [.lit (.bool true)], args := [d1, d2] }
  | _ => none }
def fnExactPutFingerRow : OpenClaim := { program := "ytmgkbgdbahijnac", sum := "5556b77a8a78f062192bae83635e3c517b20925bf4ed9bd25ee518174c23a63e", func := "loop.example/g01347/laws.FnExactPutFinger", spec := "fnExactPutFinger", apart := false }
def FnExactPutFingerSaid : Prop := fnExactPutFingerRow.holds Try.pinned (OpenSpec.ofChange fnExactPutFingerSpec)

/-- ITS FALSE NEIGHBOUR: 'it returns false'. Refute it at one input. -/
def fnExactPutFingerWrong : ChangeSpec := { name := "fnExactPutFinger", fn := fun _ => fun
  | [d1, d2] => { results := [.lit (.bool false)], args := [d1, d2] }
  | _ => none }
def FnExactPutFingerWrongFalsely : Prop := fnExactPutFingerRow.holds Try.pinned (OpenSpec.ofChange fnExactPutFingerWrong)

/-- 'laws.FnExactCountOfZeros': WHATEVER THE INPUT: true; the input reads as it did. -/
def fnExactCountOfZerosSpec : ChangeSpec := { name := "fnExactCountOfZeros", fn := fun _ => fun
  | [d] => { results := [.lit (.bool true)], args := [d] }
  | _ => none }
def fnExactCountOfZerosRow : OpenClaim := { program := "ytmgkbgdbahijnac", sum := "5556b77a8a78f062192bae83635e3c517b20925bf4ed9bd25ee518174c23a63e", func := "loop.example/g01347/laws.FnExactCountOfZeros", spec := "fnExactCountOfZeros", inPlace := ["math.Float64frombits", "math.Float64bits"], apart := false }
def FnExactCountOfZerosSaid : Prop := fnExactCountOfZerosRow.holds Try.pinned (OpenSpec.ofChange fnExactCountOfZerosSpec)

/-- ITS FALSE NEIGHBOUR: 'it returns false'. Refute it at one input. -/
def fnExactCountOfZerosWrong : ChangeSpec := { name := "fnExactCountOfZeros", fn := fun _ => fun
  | [d] => { results := [.lit (.bool false)], args := [d] }
  | _ => none }
def FnExactCountOfZerosWrongFalsely : Prop := fnExactCountOfZerosRow.holds Try.pinned (OpenSpec.ofChange fnExactCountOfZerosWrong)

/-- 'laws.FnExactCountOfSieve': WHATEVER THE INPUT: true; the input reads as it did. -/
def fnExactCountOfSieveSpec : ChangeSpec := { name := "fnExactCountOfSieve", fn := fun _ => fun
  | [d] => { results := [.lit (.bool true)], args := [d] }
  | _ => none }
def fnExactCountOfSieveRow : OpenClaim := { program := "ytmgkbgdbahijnac", sum := "5556b77a8a78f062192bae83635e3c517b20925bf4ed9bd25ee518174c23a63e", func := "loop.example/g01347/laws.FnExactCountOfSieve", spec := "fnExactCountOfSieve", inPlace := ["math.Float64frombits", "math.Float64bits"], apart := false }
def FnExactCountOfSieveSaid : Prop := fnExactCountOfSieveRow.holds Try.pinned (OpenSpec.ofChange fnExactCountOfSieveSpec)

/-- ITS FALSE NEIGHBOUR: 'it returns false'. Refute it at one input. -/
def fnExactCountOfSieveWrong : ChangeSpec := { name := "fnExactCountOfSieve", fn := fun _ => fun
  | [d] => { results := [.lit (.bool false)], args := [d] }
  | _ => none }
def FnExactCountOfSieveWrongFalsely : Prop := fnExactCountOfSieveRow.holds Try.pinned (OpenSpec.ofChange fnExactCountOfSieveWrong)

/-- 'laws.FnExactLeastHashes': WHATEVER THE INPUT: true; the input reads as it did. -/
def fnExactLeastHashesSpec : ChangeSpec := { name := "fnExactLeastHashes", fn := fun _ => fun
  | [d1, d2, d3] => { results := [.lit (.bool true)], args := [d1, d2, d3] }
  | _ => none }
def fnExactLeastHashesRow : OpenClaim := { program := "ytmgkbgdbahijnac", sum := "5556b77a8a78f062192bae83635e3c517b20925bf4ed9bd25ee518174c23a63e", func := "loop.example/g01347/laws.FnExactLeastHashes", spec := "fnExactLeastHashes", recurses := true, apart := false }
def FnExactLeastHashesSaid : Prop := fnExactLeastHashesRow.holds Try.pinned (OpenSpec.ofChange fnExactLeastHashesSpec)

/-- ITS FALSE NEIGHBOUR: 'it returns false'. Refute it at one input. -/
def fnExactLeastHashesWrong : ChangeSpec := { name := "fnExactLeastHashes", fn := fun _ => fun
  | [d1, d2, d3] => { results := [.lit (.bool false)], args := [d1, d2, d3] }
  | _ => none }
def FnExactLeastHashesWrongFalsely : Prop := fnExactLeastHashesRow.holds Try.pinned (OpenSpec.ofChange fnExactLeastHashesWrong)

/-- 'laws.FnExactJoinLeast': WHATEVER THE INPUT: true; the input reads as it did. -/
def fnExactJoinLeastSpec : ChangeSpec := { name := "fnExactJoinLeast", fn := fun _ => fun
  | [d1, d2, d3] => { results := [.lit (.bool true)], args := [d1, d2, d3] }
  | _ => none }
def fnExactJoinLeastRow : OpenClaim := { program := "ytmgkbgdbahijnac", sum := "5556b77a8a78f062192bae83635e3c517b20925bf4ed9bd25ee518174c23a63e", func := "loop.example/g01347/laws.FnExactJoinLeast", spec := "fnExactJoinLeast", recurses := true, apart := false }
def FnExactJoinLeastSaid : Prop := fnExactJoinLeastRow.holds Try.pinned (OpenSpec.ofChange fnExactJoinLeastSpec)

/-- ITS FALSE NEIGHBOUR: 'it returns false'. Refute it at one input. -/
def fnExactJoinLeastWrong : ChangeSpec := { name := "fnExactJoinLeast", fn := fun _ => fun
  | [d1, d2, d3] => { results := [.lit (.bool false)], args := [d1, d2, d3] }
  | _ => none }
def FnExactJoinLeastWrongFalsely : Prop := fnExactJoinLeastRow.holds Try.pinned (OpenSpec.ofChange fnExactJoinLeastWrong)

/-- 'laws.FnExactCountOfLeast': WHATEVER THE INPUT: true; the input reads as it did. -/
def fnExactCountOfLeastSpec : ChangeSpec := { name := "fnExactCountOfLeast", fn := fun _ => fun
  | [d1, d2] => { results := [.lit (.bool true)], args := [d1, d2] }
  | _ => none }
def fnExactCountOfLeastRow : OpenClaim := { program := "ytmgkbgdbahijnac", sum := "5556b77a8a78f062192bae83635e3c517b20925bf4ed9bd25ee518174c23a63e", func := "loop.example/g01347/laws.FnExactCountOfLeast", spec := "fnExactCountOfLeast", apart := false }
def FnExactCountOfLeastSaid : Prop := fnExactCountOfLeastRow.holds Try.pinned (OpenSpec.ofChange fnExactCountOfLeastSpec)

/-- ITS FALSE NEIGHBOUR: 'it returns false'. Refute it at one input. -/
def fnExactCountOfLeastWrong : ChangeSpec := { name := "fnExactCountOfLeast", fn := fun _ => fun
  | [d1, d2] => { results := [.lit (.bool false)], args := [d1, d2] }
  | _ => none }
def FnExactCountOfLeastWrongFalsely : Prop := fnExactCountOfLeastRow.holds Try.pinned (OpenSpec.ofChange fnExactCountOfLeastWrong)

/-- 'laws.FnExactMeetOfLeast': WHATEVER THE INPUT: true; the input reads as it did. -/
def fnExactMeetOfLeastSpec : ChangeSpec := { name := "fnExactMeetOfLeast", fn := fun _ => fun
  | [d1, d2, d3] => { results := [.lit (.bool true)], args := [d1, d2, d3] }
  | _ => none }
def fnExactMeetOfLeastRow : OpenClaim := { program := "ytmgkbgdbahijnac", sum := "5556b77a8a78f062192bae83635e3c517b20925bf4ed9bd25ee518174c23a63e", func := "loop.example/g01347/laws.FnExactMeetOfLeast", spec := "fnExactMeetOfLeast", recurses := true, apart := false }
def FnExactMeetOfLeastSaid : Prop := fnExactMeetOfLeastRow.holds Try.pinned (OpenSpec.ofChange fnExactMeetOfLeastSpec)

/-- ITS FALSE NEIGHBOUR: 'it returns false'. Refute it at one input. -/
def fnExactMeetOfLeastWrong : ChangeSpec := { name := "fnExactMeetOfLeast", fn := fun _ => fun
  | [d1, d2, d3] => { results := [.lit (.bool false)], args := [d1, d2, d3] }
  | _ => none }
def FnExactMeetOfLeastWrongFalsely : Prop := fnExactMeetOfLeastRow.holds Try.pinned (OpenSpec.ofChange fnExactMeetOfLeastWrong)

/-- 'laws.FnExactPeelCells': WHATEVER THE INPUT: true; the input reads as it did. -/
def fnExactPeelCellsSpec : ChangeSpec := { name := "fnExactPeelCells", fn := fun _ => fun
  | [d1, d2, d3] => { results := [.lit (.bool true)], args := [d1, d2, d3] }
  | _ => none }
def fnExactPeelCellsRow : OpenClaim := { program := "ytmgkbgdbahijnac", sum := "5556b77a8a78f062192bae83635e3c517b20925bf4ed9bd25ee518174c23a63e", func := "loop.example/g01347/laws.FnExactPeelCells", spec := "fnExactPeelCells", unfollowed := true, recurses := true, apart := false }
def FnExactPeelCellsSaid : Prop := fnExactPeelCellsRow.holds Try.pinned (OpenSpec.ofChange fnExactPeelCellsSpec)

/-- ITS FALSE NEIGHBOUR: 'it returns false'. Refute it at one input. -/
def fnExactPeelCellsWrong : ChangeSpec := { name := "fnExactPeelCells", fn := fun _ => fun
  | [d1, d2, d3] => { results := [.lit (.bool false)], args := [d1, d2, d3] }
  | _ => none }
def FnExactPeelCellsWrongFalsely : Prop := fnExactPeelCellsRow.holds Try.pinned (OpenSpec.ofChange fnExactPeelCellsWrong)

/-- 'laws.FnExactOrderByHash': WHATEVER THE INPUT: true; the input reads as it did. -/
def fnExactOrderByHashSpec : ChangeSpec := { name := "fnExactOrderByHash", fn := fun _ => fun
  | [d1, d2] => { results := [.lit (.bool true)], args := [d1, d2] }
  | _ => none }
def fnExactOrderByHashRow : OpenClaim := { program := "ytmgkbgdbahijnac", sum := "5556b77a8a78f062192bae83635e3c517b20925bf4ed9bd25ee518174c23a63e", func := "loop.example/g01347/laws.FnExactOrderByHash", spec := "fnExactOrderByHash", unfollowed := true, recurses := true, apart := false }
def FnExactOrderByHashSaid : Prop := fnExactOrderByHashRow.holds Try.pinned (OpenSpec.ofChange fnExactOrderByHashSpec)

/-- ITS FALSE NEIGHBOUR: 'it returns false'. Refute it at one input. -/
def fnExactOrderByHashWrong : ChangeSpec := { name := "fnExactOrderByHash", fn := fun _ => fun
  | [d1, d2] => { results := [.lit (.bool false)], args := [d1, d2] }
  | _ => none }
def FnExactOrderByHashWrongFalsely : Prop := fnExactOrderByHashRow.holds Try.pinned (OpenSpec.ofChange fnExactOrderByHashWrong)

/-- 'laws.FnExactMergeLevels': WHATEVER THE INPUT: true; the input reads as it did. -/
def fnExactMergeLevelsSpec : ChangeSpec := { name := "fnExactMergeLevels", fn := fun _ => fun
  | [d1, d2] => { results := [.lit (.bool true)], args := [d1, d2] }
  | _ => none }
def fnExactMergeLevelsRow : OpenClaim := { program := "ytmgkbgdbahijnac", sum := "5556b77a8a78f062192bae83635e3c517b20925bf4ed9bd25ee518174c23a63e", func := "loop.example/g01347/laws.FnExactMergeLevels", spec := "fnExactMergeLevels", inPlace := ["math.Float64bits", "math.Float64frombits"], unfollowed := true, recurses := true, apart := false }
def FnExactMergeLevelsSaid : Prop := fnExactMergeLevelsRow.holds Try.pinned (OpenSpec.ofChange fnExactMergeLevelsSpec)

/-- ITS FALSE NEIGHBOUR: 'it returns false'. Refute it at one input. -/
def fnExactMergeLevelsWrong : ChangeSpec := { name := "fnExactMergeLevels", fn := fun _ => fun
  | [d1, d2] => { results := [.lit (.bool false)], args := [d1, d2] }
  | _ => none }
def FnExactMergeLevelsWrongFalsely : Prop := fnExactMergeLevelsRow.holds Try.pinned (OpenSpec.ofChange fnExactMergeLevelsWrong)

/-- 'laws.FnExactExactCounts': WHATEVER THE INPUT: true; the input reads as it did. -/
def fnExactExactCountsSpec : ChangeSpec := { name := "fnExactExactCounts", fn := fun _ => fun
  | [d] => { results := [.lit (.bool true)], args := [d] }
  | _ => none }
def fnExactExactCountsRow : OpenClaim := { program := "ytmgkbgdbahijnac", sum := "5556b77a8a78f062192bae83635e3c517b20925bf4ed9bd25ee518174c23a63e", func := "loop.example/g01347/laws.FnExactExactCounts", spec := "fnExactExactCounts", unfollowed := true, recurses := true, apart := false }
def FnExactExactCountsSaid : Prop := fnExactExactCountsRow.holds Try.pinned (OpenSpec.ofChange fnExactExactCountsSpec)

/-- ITS FALSE NEIGHBOUR: 'it returns false'. Refute it at one input. -/
def fnExactExactCountsWrong : ChangeSpec := { name := "fnExactExactCounts", fn := fun _ => fun
  | [d] => { results := [.lit (.bool false)], args := [d] }
  | _ => none }
def FnExactExactCountsWrongFalsely : Prop := fnExactExactCountsRow.holds Try.pinned (OpenSpec.ofChange fnExactExactCountsWrong)

/- THE SECOND FORM. 'bulk': how many values and letters a reading holds, each counted each time it is reached (what is shared counts as often as it is met; a slice's spare places count too). A statement '..UptoSaid' is the law's where the arguments, and the package variables that the reading takes, are together of bulk at most 1048576: NARROWER than '..Said'. Prove '..Said' where nothing that the law and all that it calls make is longer than what came in: it says more and counts as full. Else prove '..UptoSaid'. A law counts once. -/
mutual
def uptoBulk {H : Type} : DataW H → Nat
  | .lit (.string bytes) => bytes.length + 1
  | .lit _ => 1
  | .nil => 1
  | .ptr d => uptoBulk d + 1
  | .slice elems spare => uptoBulkAll elems + uptoBulkAll spare + 1
  | .agg parts => uptoBulkAll parts + 1
  | .iface _ d => uptoBulk d + 1
  | .map entries => uptoBulkEntries entries + 1
  | .held _ => 1
def uptoBulkAll {H : Type} : List (DataW H) → Nat
  | [] => 0
  | d :: r => uptoBulk d + uptoBulkAll r
def uptoBulkEntries {H : Type} : List (Lit × DataW H) → Nat
  | [] => 0
  | x :: r => uptoBulkEntry x + uptoBulkEntries r
def uptoBulkEntry {H : Type} : Lit × DataW H → Nat
  | (.string bytes, d) => bytes.length + uptoBulk d + 1
  | (_, d) => uptoBulk d + 1
 end
def uptoSmall : (H : Type) → List (DataW H) → Bool := fun _ ds => decide (uptoBulkAll ds ≤ 1048576)
def OpenSpec.upto (s : _root_.Go.ChangeSpec) : _root_.Go.OpenSpec := { _root_.Go.OpenSpec.ofChange s with cond := some uptoSmall }

/-- 'laws.FnExactValidFingers', WHERE WHAT IT READS IS OF BULK AT MOST 1048576: true; the input reads as it did. -/
def fnExactValidFingersUptoRow : OpenClaim := { program := "ytmgkbgdbahijnac", sum := "5556b77a8a78f062192bae83635e3c517b20925bf4ed9bd25ee518174c23a63e", func := "loop.example/g01347/laws.FnExactValidFingers", spec := "fnExactValidFingers", apart := false, narrowed := true }
def FnExactValidFingersUptoSaid : Prop := fnExactValidFingersUptoRow.holds Try.pinned (OpenSpec.upto fnExactValidFingersSpec)

/-- 'laws.FnExactPutFinger', WHERE WHAT IT READS IS OF BULK AT MOST 1048576: true; the input reads as it did. -/
def fnExactPutFingerUptoRow : OpenClaim := { program := "ytmgkbgdbahijnac", sum := "5556b77a8a78f062192bae83635e3c517b20925bf4ed9bd25ee518174c23a63e", func := "loop.example/g01347/laws.FnExactPutFinger", spec := "fnExactPutFinger", apart := false, narrowed := true }
def FnExactPutFingerUptoSaid : Prop := fnExactPutFingerUptoRow.holds Try.pinned (OpenSpec.upto fnExactPutFingerSpec)

/-- 'laws.FnExactCountOfZeros', WHERE WHAT IT READS IS OF BULK AT MOST 1048576: true; the input reads as it did. -/
def fnExactCountOfZerosUptoRow : OpenClaim := { program := "ytmgkbgdbahijnac", sum := "5556b77a8a78f062192bae83635e3c517b20925bf4ed9bd25ee518174c23a63e", func := "loop.example/g01347/laws.FnExactCountOfZeros", spec := "fnExactCountOfZeros", inPlace := ["math.Float64frombits", "math.Float64bits"], apart := false, narrowed := true }
def FnExactCountOfZerosUptoSaid : Prop := fnExactCountOfZerosUptoRow.holds Try.pinned (OpenSpec.upto fnExactCountOfZerosSpec)

/-- 'laws.FnExactCountOfSieve', WHERE WHAT IT READS IS OF BULK AT MOST 1048576: true; the input reads as it did. -/
def fnExactCountOfSieveUptoRow : OpenClaim := { program := "ytmgkbgdbahijnac", sum := "5556b77a8a78f062192bae83635e3c517b20925bf4ed9bd25ee518174c23a63e", func := "loop.example/g01347/laws.FnExactCountOfSieve", spec := "fnExactCountOfSieve", inPlace := ["math.Float64frombits", "math.Float64bits"], apart := false, narrowed := true }
def FnExactCountOfSieveUptoSaid : Prop := fnExactCountOfSieveUptoRow.holds Try.pinned (OpenSpec.upto fnExactCountOfSieveSpec)

/-- 'laws.FnExactLeastHashes', WHERE WHAT IT READS IS OF BULK AT MOST 1048576: true; the input reads as it did. -/
def fnExactLeastHashesUptoRow : OpenClaim := { program := "ytmgkbgdbahijnac", sum := "5556b77a8a78f062192bae83635e3c517b20925bf4ed9bd25ee518174c23a63e", func := "loop.example/g01347/laws.FnExactLeastHashes", spec := "fnExactLeastHashes", recurses := true, apart := false, narrowed := true }
def FnExactLeastHashesUptoSaid : Prop := fnExactLeastHashesUptoRow.holds Try.pinned (OpenSpec.upto fnExactLeastHashesSpec)

/-- 'laws.FnExactJoinLeast', WHERE WHAT IT READS IS OF BULK AT MOST 1048576: true; the input reads as it did. -/
def fnExactJoinLeastUptoRow : OpenClaim := { program := "ytmgkbgdbahijnac", sum := "5556b77a8a78f062192bae83635e3c517b20925bf4ed9bd25ee518174c23a63e", func := "loop.example/g01347/laws.FnExactJoinLeast", spec := "fnExactJoinLeast", recurses := true, apart := false, narrowed := true }
def FnExactJoinLeastUptoSaid : Prop := fnExactJoinLeastUptoRow.holds Try.pinned (OpenSpec.upto fnExactJoinLeastSpec)

/-- 'laws.FnExactCountOfLeast', WHERE WHAT IT READS IS OF BULK AT MOST 1048576: true; the input reads as it did. -/
def fnExactCountOfLeastUptoRow : OpenClaim := { program := "ytmgkbgdbahijnac", sum := "5556b77a8a78f062192bae83635e3c517b20925bf4ed9bd25ee518174c23a63e", func := "loop.example/g01347/laws.FnExactCountOfLeast", spec := "fnExactCountOfLeast", apart := false, narrowed := true }
def FnExactCountOfLeastUptoSaid : Prop := fnExactCountOfLeastUptoRow.holds Try.pinned (OpenSpec.upto fnExactCountOfLeastSpec)

/-- 'laws.FnExactMeetOfLeast', WHERE WHAT IT READS IS OF BULK AT MOST 1048576: true; the input reads as it did. -/
def fnExactMeetOfLeastUptoRow : OpenClaim := { program := "ytmgkbgdbahijnac", sum := "5556b77a8a78f062192bae83635e3c517b20925bf4ed9bd25ee518174c23a63e", func := "loop.example/g01347/laws.FnExactMeetOfLeast", spec := "fnExactMeetOfLeast", recurses := true, apart := false, narrowed := true }
def FnExactMeetOfLeastUptoSaid : Prop := fnExactMeetOfLeastUptoRow.holds Try.pinned (OpenSpec.upto fnExactMeetOfLeastSpec)

/-- 'laws.FnExactPeelCells', WHERE WHAT IT READS IS OF BULK AT MOST 1048576: true; the input reads as it did. -/
def fnExactPeelCellsUptoRow : OpenClaim := { program := "ytmgkbgdbahijnac", sum := "5556b77a8a78f062192bae83635e3c517b20925bf4ed9bd25ee518174c23a63e", func := "loop.example/g01347/laws.FnExactPeelCells", spec := "fnExactPeelCells", unfollowed := true, recurses := true, apart := false, narrowed := true }
def FnExactPeelCellsUptoSaid : Prop := fnExactPeelCellsUptoRow.holds Try.pinned (OpenSpec.upto fnExactPeelCellsSpec)

/-- 'laws.FnExactOrderByHash', WHERE WHAT IT READS IS OF BULK AT MOST 1048576: true; the input reads as it did. -/
def fnExactOrderByHashUptoRow : OpenClaim := { program := "ytmgkbgdbahijnac", sum := "5556b77a8a78f062192bae83635e3c517b20925bf4ed9bd25ee518174c23a63e", func := "loop.example/g01347/laws.FnExactOrderByHash", spec := "fnExactOrderByHash", unfollowed := true, recurses := true, apart := false, narrowed := true }
def FnExactOrderByHashUptoSaid : Prop := fnExactOrderByHashUptoRow.holds Try.pinned (OpenSpec.upto fnExactOrderByHashSpec)

/-- 'laws.FnExactMergeLevels', WHERE WHAT IT READS IS OF BULK AT MOST 1048576: true; the input reads as it did. -/
def fnExactMergeLevelsUptoRow : OpenClaim := { program := "ytmgkbgdbahijnac", sum := "5556b77a8a78f062192bae83635e3c517b20925bf4ed9bd25ee518174c23a63e", func := "loop.example/g01347/laws.FnExactMergeLevels", spec := "fnExactMergeLevels", inPlace := ["math.Float64bits", "math.Float64frombits"], unfollowed := true, recurses := true, apart := false, narrowed := true }
def FnExactMergeLevelsUptoSaid : Prop := fnExactMergeLevelsUptoRow.holds Try.pinned (OpenSpec.upto fnExactMergeLevelsSpec)

/-- 'laws.FnExactExactCounts', WHERE WHAT IT READS IS OF BULK AT MOST 1048576: true; the input reads as it did. -/
def fnExactExactCountsUptoRow : OpenClaim := { program := "ytmgkbgdbahijnac", sum := "5556b77a8a78f062192bae83635e3c517b20925bf4ed9bd25ee518174c23a63e", func := "loop.example/g01347/laws.FnExactExactCounts", spec := "fnExactExactCounts", unfollowed := true, recurses := true, apart := false, narrowed := true }
def FnExactExactCountsUptoSaid : Prop := fnExactExactCountsUptoRow.holds Try.pinned (OpenSpec.upto fnExactExactCountsSpec)

end Rows
end Go.Proofs.Ytmgkbgdbahijnac
