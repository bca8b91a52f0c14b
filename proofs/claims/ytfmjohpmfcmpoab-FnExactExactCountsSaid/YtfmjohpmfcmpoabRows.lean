/-
  No cell of these rows narrows 'for every input' (looked for: loops, veiled, ifaces, maps, wideKeys, modest, calm, conditions, laid).
  DERIVED. THE GIVEN ROWS OF THIS SEAT. 12 by the template 'for every input the law returns true; each argument reads behind the call as it read before'; 0 by the template 'total and deterministic' (their statements: YtfmjohpmfcmpoabTotals.lean).
  GIVEN WITH THE SEED: the statements are not yours to turn. If you find one false, say at which input.
  Laid BY PROGRAM, IN A SANDBOX (cutbox-rows.mjs): the forced cells as the released guide's own fill.sh prints them over the translation 89ec17876d46783b… (all of the seat's roots in one cut). By AI agents, Wed Nov 11 2026. No macro, syntax, notation, axiom, sorry.
-/
import Derived.Test.YtfmjohpmfcmpoabChecked
import GoSem.Claim
import GoSem.ClaimJoined
import GoSem.ClaimMapViews
import Derived.JoinedTies
import Derived.KernelRfl
namespace Go.Proofs.Ytfmjohpmfcmpoab
/- THE CELL 'sum', in the pinned program and in every row, IS THE sha256 OF THE DUMP (.gsa) THAT YtfmjohpmfcmpoabProg.lean LOADS. Nothing in Lean hashes anything: it is a label: what it is worth is what the hold of that sum in a sandbox is worth. -/
noncomputable def Try.pinned : Pinned := { name := "ytfmjohpmfcmpoab", sum := "89ec17876d46783bea9c28d9b69dc3cc58de92ab1cb77c4ac7c029847ffc6b62", checked := Try.checked }
namespace Rows
def none {H : Type} : Left H := { results := [], args := [] }

/-- 'laws.FnExactPutTop': WHATEVER THE INPUT: true; the input reads as it did. -/
def fnExactPutTopSpec : ChangeSpec := { name := "fnExactPutTop", fn := fun _ => fun
  | [d1, d2] => { results := [.lit (.bool true)], args := [d1, d2] }
  | _ => none }
def fnExactPutTopRow : OpenClaim := { program := "ytfmjohpmfcmpoab", sum := "89ec17876d46783bea9c28d9b69dc3cc58de92ab1cb77c4ac7c029847ffc6b62", func := "loop.example/g01347/laws.FnExactPutTop", spec := "fnExactPutTop", unfollowed := true, recurses := true, apart := false }
def FnExactPutTopSaid : Prop := fnExactPutTopRow.holds Try.pinned (OpenSpec.ofChange fnExactPutTopSpec)

/-- ITS FALSE NEIGHBOUR: 'it returns false'. Refute it at one input. -/
def fnExactPutTopWrong : ChangeSpec := { name := "fnExactPutTop", fn := fun _ => fun
  | [d1, d2] => { results := [.lit (.bool false)], args := [d1, d2] }
  | _ => none }
def FnExactPutTopWrongFalsely : Prop := fnExactPutTopRow.holds Try.pinned (OpenSpec.ofChange fnExactPutTopWrong)

/-- 'laws.FnExactTopsOf': WHATEVER THE INPUT: true; the input reads as it did. -/
def fnExactTopsOfSpec : ChangeSpec := { name := "fnExactTopsOf", fn := fun _ => fun
  | [d1, d2] => { results := [.lit (.bool true)], args := [d1, d2] }
  | _ => none }
def fnExactTopsOfRow : OpenClaim := { program := "ytfmjohpmfcmpoab", sum := "89ec17876d46783bea9c28d9b69dc3cc58de92ab1cb77c4ac7c029847ffc6b62", func := "loop.example/g01347/laws.FnExactTopsOf", spec := "fnExactTopsOf", unfollowed := true, recurses := true, apart := false }
def FnExactTopsOfSaid : Prop := fnExactTopsOfRow.holds Try.pinned (OpenSpec.ofChange fnExactTopsOfSpec)

/-- ITS FALSE NEIGHBOUR: 'it returns false'. Refute it at one input. -/
def fnExactTopsOfWrong : ChangeSpec := { name := "fnExactTopsOf", fn := fun _ => fun
  | [d1, d2] => { results := [.lit (.bool false)], args := [d1, d2] }
  | _ => none }
def FnExactTopsOfWrongFalsely : Prop := fnExactTopsOfRow.holds Try.pinned (OpenSpec.ofChange fnExactTopsOfWrong)

/-- 'laws.FnExactHeavyTops': WHATEVER THE INPUT: true; the input reads as it did. -/
def fnExactHeavyTopsSpec : ChangeSpec := { name := "fnExactHeavyTops", fn := fun _ => fun
  | [d1, d2] => { results := [.lit (.bool true)], args := [d1, d2] }
  | _ => none }
def fnExactHeavyTopsRow : OpenClaim := { program := "ytfmjohpmfcmpoab", sum := "89ec17876d46783bea9c28d9b69dc3cc58de92ab1cb77c4ac7c029847ffc6b62", func := "loop.example/g01347/laws.FnExactHeavyTops", spec := "fnExactHeavyTops", recurses := true, apart := false }
def FnExactHeavyTopsSaid : Prop := fnExactHeavyTopsRow.holds Try.pinned (OpenSpec.ofChange fnExactHeavyTopsSpec)

/-- ITS FALSE NEIGHBOUR: 'it returns false'. Refute it at one input. -/
def fnExactHeavyTopsWrong : ChangeSpec := { name := "fnExactHeavyTops", fn := fun _ => fun
  | [d1, d2] => { results := [.lit (.bool false)], args := [d1, d2] }
  | _ => none }
def FnExactHeavyTopsWrongFalsely : Prop := fnExactHeavyTopsRow.holds Try.pinned (OpenSpec.ofChange fnExactHeavyTopsWrong)

/-- 'laws.FnExactMergeTops': WHATEVER THE INPUT: true; the input reads as it did. -/
def fnExactMergeTopsSpec : ChangeSpec := { name := "fnExactMergeTops", fn := fun _ => fun
  | [d1, d2] => { results := [.lit (.bool true)], args := [d1, d2] }
  | _ => none }
def fnExactMergeTopsRow : OpenClaim := { program := "ytfmjohpmfcmpoab", sum := "89ec17876d46783bea9c28d9b69dc3cc58de92ab1cb77c4ac7c029847ffc6b62", func := "loop.example/g01347/laws.FnExactMergeTops", spec := "fnExactMergeTops", unfollowed := true, recurses := true, apart := false }
def FnExactMergeTopsSaid : Prop := fnExactMergeTopsRow.holds Try.pinned (OpenSpec.ofChange fnExactMergeTopsSpec)

/-- ITS FALSE NEIGHBOUR: 'it returns false'. Refute it at one input. -/
def fnExactMergeTopsWrong : ChangeSpec := { name := "fnExactMergeTops", fn := fun _ => fun
  | [d1, d2] => { results := [.lit (.bool false)], args := [d1, d2] }
  | _ => none }
def FnExactMergeTopsWrongFalsely : Prop := fnExactMergeTopsRow.holds Try.pinned (OpenSpec.ofChange fnExactMergeTopsWrong)

/-- 'laws.FnExactNewLayers': WHATEVER THE INPUT: true; the input reads as it did. -/
def fnExactNewLayersSpec : ChangeSpec := { name := "fnExactNewLayers", fn := fun _ => fun
  | [d1, d2, d3] => { results := [.lit (.bool true)], args := [d1, d2, d3] }
  | _ => none }
def fnExactNewLayersRow : OpenClaim := { program := "ytfmjohpmfcmpoab", sum := "89ec17876d46783bea9c28d9b69dc3cc58de92ab1cb77c4ac7c029847ffc6b62", func := "loop.example/g01347/laws.FnExactNewLayers", spec := "fnExactNewLayers", apart := false }
def FnExactNewLayersSaid : Prop := fnExactNewLayersRow.holds Try.pinned (OpenSpec.ofChange fnExactNewLayersSpec)

/-- ITS FALSE NEIGHBOUR: 'it returns false'. Refute it at one input. -/
def fnExactNewLayersWrong : ChangeSpec := { name := "fnExactNewLayers", fn := fun _ => fun
  | [d1, d2, d3] => { results := [.lit (.bool false)], args := [d1, d2, d3] }
  | _ => none }
def FnExactNewLayersWrongFalsely : Prop := fnExactNewLayersRow.holds Try.pinned (OpenSpec.ofChange fnExactNewLayersWrong)

/-- 'laws.FnExactPutLayers': WHATEVER THE INPUT: true; the input reads as it did. -/
def fnExactPutLayersSpec : ChangeSpec := { name := "fnExactPutLayers", fn := fun _ => fun
  | [d1, d2, d3] => { results := [.lit (.bool true)], args := [d1, d2, d3] }
  | _ => none }
def fnExactPutLayersRow : OpenClaim := { program := "ytfmjohpmfcmpoab", sum := "89ec17876d46783bea9c28d9b69dc3cc58de92ab1cb77c4ac7c029847ffc6b62", func := "loop.example/g01347/laws.FnExactPutLayers", spec := "fnExactPutLayers", unfollowed := true, recurses := true, apart := false }
def FnExactPutLayersSaid : Prop := fnExactPutLayersRow.holds Try.pinned (OpenSpec.ofChange fnExactPutLayersSpec)

/-- ITS FALSE NEIGHBOUR: 'it returns false'. Refute it at one input. -/
def fnExactPutLayersWrong : ChangeSpec := { name := "fnExactPutLayers", fn := fun _ => fun
  | [d1, d2, d3] => { results := [.lit (.bool false)], args := [d1, d2, d3] }
  | _ => none }
def FnExactPutLayersWrongFalsely : Prop := fnExactPutLayersRow.holds Try.pinned (OpenSpec.ofChange fnExactPutLayersWrong)

/-- 'laws.FnExactHeavyLayers': WHATEVER THE INPUT: true; the input reads as it did. -/
def fnExactHeavyLayersSpec : ChangeSpec := { name := "fnExactHeavyLayers", fn := fun _ => fun
  | [d1, d2] => { results := [.lit (.bool true)], args := [d1, d2] }
  | _ => none }
def fnExactHeavyLayersRow : OpenClaim := { program := "ytfmjohpmfcmpoab", sum := "89ec17876d46783bea9c28d9b69dc3cc58de92ab1cb77c4ac7c029847ffc6b62", func := "loop.example/g01347/laws.FnExactHeavyLayers", spec := "fnExactHeavyLayers", apart := false }
def FnExactHeavyLayersSaid : Prop := fnExactHeavyLayersRow.holds Try.pinned (OpenSpec.ofChange fnExactHeavyLayersSpec)

/-- ITS FALSE NEIGHBOUR: 'it returns false'. Refute it at one input. -/
def fnExactHeavyLayersWrong : ChangeSpec := { name := "fnExactHeavyLayers", fn := fun _ => fun
  | [d1, d2] => { results := [.lit (.bool false)], args := [d1, d2] }
  | _ => none }
def FnExactHeavyLayersWrongFalsely : Prop := fnExactHeavyLayersRow.holds Try.pinned (OpenSpec.ofChange fnExactHeavyLayersWrong)

/-- 'laws.FnExactExactCounts': WHATEVER THE INPUT: true; the input reads as it did. -/
def fnExactExactCountsSpec : ChangeSpec := { name := "fnExactExactCounts", fn := fun _ => fun
  | [d] => { results := [.lit (.bool true)], args := [d] }
  | _ => none }
def fnExactExactCountsRow : OpenClaim := { program := "ytfmjohpmfcmpoab", sum := "89ec17876d46783bea9c28d9b69dc3cc58de92ab1cb77c4ac7c029847ffc6b62", func := "loop.example/g01347/laws.FnExactExactCounts", spec := "fnExactExactCounts", unfollowed := true, recurses := true, apart := false }
def FnExactExactCountsSaid : Prop := fnExactExactCountsRow.holds Try.pinned (OpenSpec.ofChange fnExactExactCountsSpec)

/-- ITS FALSE NEIGHBOUR: 'it returns false'. Refute it at one input. -/
def fnExactExactCountsWrong : ChangeSpec := { name := "fnExactExactCounts", fn := fun _ => fun
  | [d] => { results := [.lit (.bool false)], args := [d] }
  | _ => none }
def FnExactExactCountsWrongFalsely : Prop := fnExactExactCountsRow.holds Try.pinned (OpenSpec.ofChange fnExactExactCountsWrong)

/-- 'laws.FnExactCorrectedAt': WHATEVER THE INPUT: true; the input reads as it did. -/
def fnExactCorrectedAtSpec : ChangeSpec := { name := "fnExactCorrectedAt", fn := fun _ => fun
  | [d1, d2] => { results := [.lit (.bool true)], args := [d1, d2] }
  | _ => none }
def fnExactCorrectedAtRow : OpenClaim := { program := "ytfmjohpmfcmpoab", sum := "89ec17876d46783bea9c28d9b69dc3cc58de92ab1cb77c4ac7c029847ffc6b62", func := "loop.example/g01347/laws.FnExactCorrectedAt", spec := "fnExactCorrectedAt", unfollowed := true, recurses := true, apart := false }
def FnExactCorrectedAtSaid : Prop := fnExactCorrectedAtRow.holds Try.pinned (OpenSpec.ofChange fnExactCorrectedAtSpec)

/-- ITS FALSE NEIGHBOUR: 'it returns false'. Refute it at one input. -/
def fnExactCorrectedAtWrong : ChangeSpec := { name := "fnExactCorrectedAt", fn := fun _ => fun
  | [d1, d2] => { results := [.lit (.bool false)], args := [d1, d2] }
  | _ => none }
def FnExactCorrectedAtWrongFalsely : Prop := fnExactCorrectedAtRow.holds Try.pinned (OpenSpec.ofChange fnExactCorrectedAtWrong)

/-- 'laws.FnExactPutFinger': WHATEVER THE INPUT: true; the input reads as it did. -/
def fnExactPutFingerSpec : ChangeSpec := { name := "fnExactPutFinger", fn := fun _ => fun
  | [d1, d2] => { results := [.lit (.bool true)], args := [d1, d2] }
  | _ => none }
def fnExactPutFingerRow : OpenClaim := { program := "ytfmjohpmfcmpoab", sum := "89ec17876d46783bea9c28d9b69dc3cc58de92ab1cb77c4ac7c029847ffc6b62", func := "loop.example/g01347/laws.FnExactPutFinger", spec := "fnExactPutFinger", apart := false }
def FnExactPutFingerSaid : Prop := fnExactPutFingerRow.holds Try.pinned (OpenSpec.ofChange fnExactPutFingerSpec)

/-- ITS FALSE NEIGHBOUR: 'it returns false'. Refute it at one input. -/
def fnExactPutFingerWrong : ChangeSpec := { name := "fnExactPutFinger", fn := fun _ => fun
  | [d1, d2] => { results := [.lit (.bool false)], args := [d1, d2] }
  | _ => none }
def FnExactPutFingerWrongFalsely : Prop := fnExactPutFingerRow.holds Try.pinned (OpenSpec.ofChange fnExactPutFingerWrong)

/-- 'laws.FnExactCountOfSieve': WHATEVER THE INPUT: true; the input reads as it did. -/
def fnExactCountOfSieveSpec : ChangeSpec := { name := "fnExactCountOfSieve", fn := fun _ => fun
  | [d] => { results := [.lit (.bool true)], args := [d] }
  | _ => none }
def fnExactCountOfSieveRow : OpenClaim := { program := "ytfmjohpmfcmpoab", sum := "89ec17876d46783bea9c28d9b69dc3cc58de92ab1cb77c4ac7c029847ffc6b62", func := "loop.example/g01347/laws.FnExactCountOfSieve", spec := "fnExactCountOfSieve", inPlace := ["math.Float64frombits", "math.Float64bits"], apart := false }
def FnExactCountOfSieveSaid : Prop := fnExactCountOfSieveRow.holds Try.pinned (OpenSpec.ofChange fnExactCountOfSieveSpec)

/-- ITS FALSE NEIGHBOUR: 'it returns false'. Refute it at one input. -/
def fnExactCountOfSieveWrong : ChangeSpec := { name := "fnExactCountOfSieve", fn := fun _ => fun
  | [d] => { results := [.lit (.bool false)], args := [d] }
  | _ => none }
def FnExactCountOfSieveWrongFalsely : Prop := fnExactCountOfSieveRow.holds Try.pinned (OpenSpec.ofChange fnExactCountOfSieveWrong)

/-- 'laws.FnExactCountOfZeros': WHATEVER THE INPUT: true; the input reads as it did. -/
def fnExactCountOfZerosSpec : ChangeSpec := { name := "fnExactCountOfZeros", fn := fun _ => fun
  | [d] => { results := [.lit (.bool true)], args := [d] }
  | _ => none }
def fnExactCountOfZerosRow : OpenClaim := { program := "ytfmjohpmfcmpoab", sum := "89ec17876d46783bea9c28d9b69dc3cc58de92ab1cb77c4ac7c029847ffc6b62", func := "loop.example/g01347/laws.FnExactCountOfZeros", spec := "fnExactCountOfZeros", inPlace := ["math.Float64frombits", "math.Float64bits"], apart := false }
def FnExactCountOfZerosSaid : Prop := fnExactCountOfZerosRow.holds Try.pinned (OpenSpec.ofChange fnExactCountOfZerosSpec)

/-- ITS FALSE NEIGHBOUR: 'it returns false'. Refute it at one input. -/
def fnExactCountOfZerosWrong : ChangeSpec := { name := "fnExactCountOfZeros", fn := fun _ => fun
  | [d] => { results := [.lit (.bool false)], args := [d] }
  | _ => none }
def FnExactCountOfZerosWrongFalsely : Prop := fnExactCountOfZerosRow.holds Try.pinned (OpenSpec.ofChange fnExactCountOfZerosWrong)

/- THE SECOND FORM. 'bulk': how many values and letters a reading holds, each counted each time it is reached (what is shared counts as often as it is met; a slice's spare places count too). A statement '..UptoSaid' is the law's where the arguments, and the package variables that the reading takes, are together of bulk at most 1048576: NARROWER than '..Said'. Prove '..Said' where nothing that the law and all that it calls make is longer than what came in: it says more and counts as full. Else prove '..UptoSaid'. A law counts once. -/
mutual
def uptoBulk {H : Type} : DataW H → Nat
  | .lit (.string bytes) => bytes.length + 1
  | .lit _ => 1
  | .nil => 1
  | .ptr d => uptoBulk d + 1
  | .slice elems spare => uptoBulkAll elems + uptoBulkAll spare + 1
  | .agg parts => uptoBulkAll parts + 1
  | .iface _ d => uptoBulk d + 1
  | .map entries => uptoBulkEntries entries + 1
  | .held _ => 1
def uptoBulkAll {H : Type} : List (DataW H) → Nat
  | [] => 0
  | d :: r => uptoBulk d + uptoBulkAll r
def uptoBulkEntries {H : Type} : List (Lit × DataW H) → Nat
  | [] => 0
  | x :: r => uptoBulkEntry x + uptoBulkEntries r
def uptoBulkEntry {H : Type} : Lit × DataW H → Nat
  | (.string bytes, d) => bytes.length + uptoBulk d + 1
  | (_, d) => uptoBulk d + 1
 end
def uptoSmall : (H : Type) → List (DataW H) → Bool := fun _ ds => decide (uptoBulkAll ds ≤ 1048576)
def OpenSpec.upto (s : _root_.Go.ChangeSpec) : _root_.Go.OpenSpec := { _root_.Go.OpenSpec.ofChange s with cond := some uptoSmall }

/-- 'laws.FnExactPutTop', WHERE WHAT IT READS IS OF BULK AT MOST 1048576: true; the input reads as it did. -/
def fnExactPutTopUptoRow : OpenClaim := { program := "ytfmjohpmfcmpoab", sum := "89ec17876d46783bea9c28d9b69dc3cc58de92ab1cb77c4ac7c029847ffc6b62", func := "loop.example/g01347/laws.FnExactPutTop", spec := "fnExactPutTop", unfollowed := true, recurses := true, apart := false, narrowed := true }
def FnExactPutTopUptoSaid : Prop := fnExactPutTopUptoRow.holds Try.pinned (OpenSpec.upto fnExactPutTopSpec)

/-- 'laws.FnExactTopsOf', WHERE WHAT IT READS IS OF BULK AT MOST 1048576: true; the input reads as it did. -/
def fnExactTopsOfUptoRow : OpenClaim := { program := "ytfmjohpmfcmpoab", sum := "89ec17876d46783bea9c28d9b69dc3cc58de92ab1cb77c4ac7c029847ffc6b62", func := "loop.example/g01347/laws.FnExactTopsOf", spec := "fnExactTopsOf", unfollowed := true, recurses := true, apart := false, narrowed := true }
def FnExactTopsOfUptoSaid : Prop := fnExactTopsOfUptoRow.holds Try.pinned (OpenSpec.upto fnExactTopsOfSpec)

/-- 'laws.FnExactHeavyTops', WHERE WHAT IT READS IS OF BULK AT MOST 1048576: true; the input reads as it did. -/
def fnExactHeavyTopsUptoRow : OpenClaim := { program := "ytfmjohpmfcmpoab", sum := "89ec17876d46783bea9c28d9b69dc3cc58de92ab1cb77c4ac7c029847ffc6b62", func := "loop.example/g01347/laws.FnExactHeavyTops", spec := "fnExactHeavyTops", recurses := true, apart := false, narrowed := true }
def FnExactHeavyTopsUptoSaid : Prop := fnExactHeavyTopsUptoRow.holds Try.pinned (OpenSpec.upto fnExactHeavyTopsSpec)

/-- 'laws.FnExactMergeTops', WHERE WHAT IT READS IS OF BULK AT MOST 1048576: true; the input reads as it did. -/
def fnExactMergeTopsUptoRow : OpenClaim := { program := "ytfmjohpmfcmpoab", sum := "89ec17876d46783bea9c28d9b69dc3cc58de92ab1cb77c4ac7c029847ffc6b62", func := "loop.example/g01347/laws.FnExactMergeTops", spec := "fnExactMergeTops", unfollowed := true, recurses := true, apart := false, narrowed := true }
def FnExactMergeTopsUptoSaid : Prop := fnExactMergeTopsUptoRow.holds Try.pinned (OpenSpec.upto fnExactMergeTopsSpec)

/-- 'laws.FnExactNewLayers', WHERE WHAT IT READS IS OF BULK AT MOST 1048576: true; the input reads as it did. -/
def fnExactNewLayersUptoRow : OpenClaim := { program := "ytfmjohpmfcmpoab", sum := "89ec17876d46783bea9c28d9b69dc3cc58de92ab1cb77c4ac7c029847ffc6b62", func := "loop.example/g01347/laws.FnExactNewLayers", spec := "fnExactNewLayers", apart := false, narrowed := true }
def FnExactNewLayersUptoSaid : Prop := fnExactNewLayersUptoRow.holds Try.pinned (OpenSpec.upto fnExactNewLayersSpec)

/-- 'laws.FnExactPutLayers', WHERE WHAT IT READS IS OF BULK AT MOST 1048576: true; the input reads as it did. -/
def fnExactPutLayersUptoRow : OpenClaim := { program := "ytfmjohpmfcmpoab", sum := "89ec17876d46783bea9c28d9b69dc3cc58de92ab1cb77c4ac7c029847ffc6b62", func := "loop.example/g01347/laws.FnExactPutLayers", spec := "fnExactPutLayers", unfollowed := true, recurses := true, apart := false, narrowed := true }
def FnExactPutLayersUptoSaid : Prop := fnExactPutLayersUptoRow.holds Try.pinned (OpenSpec.upto fnExactPutLayersSpec)

/-- 'laws.FnExactHeavyLayers', WHERE WHAT IT READS IS OF BULK AT MOST 1048576: true; the input reads as it did. -/
def fnExactHeavyLayersUptoRow : OpenClaim := { program := "ytfmjohpmfcmpoab", sum := "89ec17876d46783bea9c28d9b69dc3cc58de92ab1cb77c4ac7c029847ffc6b62", func := "loop.example/g01347/laws.FnExactHeavyLayers", spec := "fnExactHeavyLayers", apart := false, narrowed := true }
def FnExactHeavyLayersUptoSaid : Prop := fnExactHeavyLayersUptoRow.holds Try.pinned (OpenSpec.upto fnExactHeavyLayersSpec)

/-- 'laws.FnExactExactCounts', WHERE WHAT IT READS IS OF BULK AT MOST 1048576: true; the input reads as it did. -/
def fnExactExactCountsUptoRow : OpenClaim := { program := "ytfmjohpmfcmpoab", sum := "89ec17876d46783bea9c28d9b69dc3cc58de92ab1cb77c4ac7c029847ffc6b62", func := "loop.example/g01347/laws.FnExactExactCounts", spec := "fnExactExactCounts", unfollowed := true, recurses := true, apart := false, narrowed := true }
def FnExactExactCountsUptoSaid : Prop := fnExactExactCountsUptoRow.holds Try.pinned (OpenSpec.upto fnExactExactCountsSpec)

/-- 'laws.FnExactCorrectedAt', WHERE WHAT IT READS IS OF BULK AT MOST 1048576: true; the input reads as it did. -/
def fnExactCorrectedAtUptoRow : OpenClaim := { program := "ytfmjohpmfcmpoab", sum := "89ec17876d46783bea9c28d9b69dc3cc58de92ab1cb77c4ac7c029847ffc6b62", func := "loop.example/g01347/laws.FnExactCorrectedAt", spec := "fnExactCorrectedAt", unfollowed := true, recurses := true, apart := false, narrowed := true }
def FnExactCorrectedAtUptoSaid : Prop := fnExactCorrectedAtUptoRow.holds Try.pinned (OpenSpec.upto fnExactCorrectedAtSpec)

/-- 'laws.FnExactPutFinger', WHERE WHAT IT READS IS OF BULK AT MOST 1048576: true; the input reads as it did. -/
def fnExactPutFingerUptoRow : OpenClaim := { program := "ytfmjohpmfcmpoab", sum := "89ec17876d46783bea9c28d9b69dc3cc58de92ab1cb77c4ac7c029847ffc6b62", func := "loop.example/g01347/laws.FnExactPutFinger", spec := "fnExactPutFinger", apart := false, narrowed := true }
def FnExactPutFingerUptoSaid : Prop := fnExactPutFingerUptoRow.holds Try.pinned (OpenSpec.upto fnExactPutFingerSpec)

/-- 'laws.FnExactCountOfSieve', WHERE WHAT IT READS IS OF BULK AT MOST 1048576: true; the input reads as it did. -/
def fnExactCountOfSieveUptoRow : OpenClaim := { program := "ytfmjohpmfcmpoab", sum := "89ec17876d46783bea9c28d9b69dc3cc58de92ab1cb77c4ac7c029847ffc6b62", func := "loop.example/g01347/laws.FnExactCountOfSieve", spec := "fnExactCountOfSieve", inPlace := ["math.Float64frombits", "math.Float64bits"], apart := false, narrowed := true }
def FnExactCountOfSieveUptoSaid : Prop := fnExactCountOfSieveUptoRow.holds Try.pinned (OpenSpec.upto fnExactCountOfSieveSpec)

/-- 'laws.FnExactCountOfZeros', WHERE WHAT IT READS IS OF BULK AT MOST 1048576: true; the input reads as it did. -/
def fnExactCountOfZerosUptoRow : OpenClaim := { program := "ytfmjohpmfcmpoab", sum := "89ec17876d46783bea9c28d9b69dc3cc58de92ab1cb77c4ac7c029847ffc6b62", func := "loop.example/g01347/laws.FnExactCountOfZeros", spec := "fnExactCountOfZeros", inPlace := ["math.Float64frombits", "math.Float64bits"], apart := false, narrowed := true }
def FnExactCountOfZerosUptoSaid : Prop := fnExactCountOfZerosUptoRow.holds Try.pinned (OpenSpec.upto fnExactCountOfZerosSpec)

end Rows
end Go.Proofs.Ytfmjohpmfcmpoab
