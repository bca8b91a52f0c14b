/-
  No cell of these rows narrows 'for every input' (looked for: loops, veiled, ifaces, maps, wideKeys, modest, calm, conditions, laid).
  DERIVED. THE GIVEN ROWS OF THIS SEAT. 12 by the template 'for every input the law returns true; each argument reads behind the call as it read before'; 0 by the template 'total and deterministic' (their statements: YtibldgcfplpdkaaTotals.lean).
  GIVEN WITH THE SEED: the statements are not yours to turn. If you find one false, say at which input.
  Laid BY PROGRAM, IN A SANDBOX (cutbox-rows.mjs): the forced cells as the released guide's own fill.sh prints them over the translation 3dc8304accdf7539… (all of the seat's roots in one cut). By AI agents, Wed Nov 11 2026. No macro, syntax, notation, axiom, sorry.
-/
import Derived.Test.YtibldgcfplpdkaaChecked
import GoSem.Claim
import GoSem.ClaimJoined
import GoSem.ClaimMapViews
import Derived.JoinedTies
import Derived.KernelRfl
namespace Go.Proofs.Ytibldgcfplpdkaa
/- THE CELL 'sum', in the pinned program and in every row, IS THE sha256 OF THE DUMP (.gsa) THAT YtibldgcfplpdkaaProg.lean LOADS. Nothing in Lean hashes anything: it is a label: what it is worth is what the hold of that sum in a sandbox is worth. -/
noncomputable def Try.pinned : Pinned := { name := "ytibldgcfplpdkaa", sum := "3dc8304accdf75393ec4f704c02523b162ba4e77e39cd195264ce12d160684ce", checked := Try.checked }
namespace Rows
def none {H : Type} : Left H := { results := [], args := [] }

/-- 'laws.FnHomes': WHATEVER THE INPUT: true; the input reads as it did. -/
def fnHomesSpec : ChangeSpec := { name := "fnHomes", fn := fun _ => fun
  | [d1, d2] => { results := [.lit (.bool true)], args := [d1, d2] }
  | _ => none }
def fnHomesRow : OpenClaim := { program := "ytibldgcfplpdkaa", sum := "3dc8304accdf75393ec4f704c02523b162ba4e77e39cd195264ce12d160684ce", func := "loop.example/g01347/laws.FnHomes", spec := "fnHomes", unfollowed := true, recurses := true, apart := false }
def FnHomesSaid : Prop := fnHomesRow.holds Try.pinned (OpenSpec.ofChange fnHomesSpec)

/-- ITS FALSE NEIGHBOUR: 'it returns false'. Refute it at one input. -/
def fnHomesWrong : ChangeSpec := { name := "fnHomes", fn := fun _ => fun
  | [d1, d2] => { results := [.lit (.bool false)], args := [d1, d2] }
  | _ => none }
def FnHomesWrongFalsely : Prop := fnHomesRow.holds Try.pinned (OpenSpec.ofChange fnHomesWrong)

/-- 'laws.FnLists': WHATEVER THE INPUT: true; the input reads as it did. -/
def fnListsSpec : ChangeSpec := { name := "fnLists", fn := fun _ => fun
  | [d1, d2] => { results := [.lit (.bool true)], args := [d1, d2] }
  | _ => none }
def fnListsRow : OpenClaim := { program := "ytibldgcfplpdkaa", sum := "3dc8304accdf75393ec4f704c02523b162ba4e77e39cd195264ce12d160684ce", func := "loop.example/g01347/laws.FnLists", spec := "fnLists", inPlace := ["math.Float64bits", "math.Float64frombits", "math.archCeil", "math.archFloor", "math.archTrunc"], unfollowed := true, recurses := true, apart := false }
def FnListsSaid : Prop := fnListsRow.holds Try.pinned (OpenSpec.ofChange fnListsSpec)

/-- ITS FALSE NEIGHBOUR: 'it returns false'. Refute it at one input. -/
def fnListsWrong : ChangeSpec := { name := "fnLists", fn := fun _ => fun
  | [d1, d2] => { results := [.lit (.bool false)], args := [d1, d2] }
  | _ => none }
def FnListsWrongFalsely : Prop := fnListsRow.holds Try.pinned (OpenSpec.ofChange fnListsWrong)

/-- 'laws.FnBanded': WHATEVER THE INPUT: true; the input reads as it did. -/
def fnBandedSpec : ChangeSpec := { name := "fnBanded", fn := fun _ => fun
  | [d1, d2] => { results := [.lit (.bool true)], args := [d1, d2] }
  | _ => none }
def fnBandedRow : OpenClaim := { program := "ytibldgcfplpdkaa", sum := "3dc8304accdf75393ec4f704c02523b162ba4e77e39cd195264ce12d160684ce", func := "loop.example/g01347/laws.FnBanded", spec := "fnBanded", inPlace := ["math.Float64bits", "math.Float64frombits", "math.sqrt"], unfollowed := true, recurses := true, apart := false }
def FnBandedSaid : Prop := fnBandedRow.holds Try.pinned (OpenSpec.ofChange fnBandedSpec)

/-- ITS FALSE NEIGHBOUR: 'it returns false'. Refute it at one input. -/
def fnBandedWrong : ChangeSpec := { name := "fnBanded", fn := fun _ => fun
  | [d1, d2] => { results := [.lit (.bool false)], args := [d1, d2] }
  | _ => none }
def FnBandedWrongFalsely : Prop := fnBandedRow.holds Try.pinned (OpenSpec.ofChange fnBandedWrong)

/-- 'laws.FnLasts': WHATEVER THE INPUT: true; the input reads as it did. -/
def fnLastsSpec : ChangeSpec := { name := "fnLasts", fn := fun _ => fun
  | [d1, d2] => { results := [.lit (.bool true)], args := [d1, d2] }
  | _ => none }
def fnLastsRow : OpenClaim := { program := "ytibldgcfplpdkaa", sum := "3dc8304accdf75393ec4f704c02523b162ba4e77e39cd195264ce12d160684ce", func := "loop.example/g01347/laws.FnLasts", spec := "fnLasts", inPlace := ["math.Float64bits", "math.Float64frombits"], unfollowed := true, recurses := true, apart := false }
def FnLastsSaid : Prop := fnLastsRow.holds Try.pinned (OpenSpec.ofChange fnLastsSpec)

/-- ITS FALSE NEIGHBOUR: 'it returns false'. Refute it at one input. -/
def fnLastsWrong : ChangeSpec := { name := "fnLasts", fn := fun _ => fun
  | [d1, d2] => { results := [.lit (.bool false)], args := [d1, d2] }
  | _ => none }
def FnLastsWrongFalsely : Prop := fnLastsRow.holds Try.pinned (OpenSpec.ofChange fnLastsWrong)

/-- 'laws.FnSieves': WHATEVER THE INPUT: true; the input reads as it did. -/
def fnSievesSpec : ChangeSpec := { name := "fnSieves", fn := fun _ => fun
  | [d1, d2] => { results := [.lit (.bool true)], args := [d1, d2] }
  | _ => none }
def fnSievesRow : OpenClaim := { program := "ytibldgcfplpdkaa", sum := "3dc8304accdf75393ec4f704c02523b162ba4e77e39cd195264ce12d160684ce", func := "loop.example/g01347/laws.FnSieves", spec := "fnSieves", inPlace := ["math.Float64frombits", "math.Float64bits"], unfollowed := true, recurses := true, apart := false }
def FnSievesSaid : Prop := fnSievesRow.holds Try.pinned (OpenSpec.ofChange fnSievesSpec)

/-- ITS FALSE NEIGHBOUR: 'it returns false'. Refute it at one input. -/
def fnSievesWrong : ChangeSpec := { name := "fnSieves", fn := fun _ => fun
  | [d1, d2] => { results := [.lit (.bool false)], args := [d1, d2] }
  | _ => none }
def FnSievesWrongFalsely : Prop := fnSievesRow.holds Try.pinned (OpenSpec.ofChange fnSievesWrong)

/-- 'laws.FnSigned': WHATEVER THE INPUT: true; the input reads as it did. -/
def fnSignedSpec : ChangeSpec := { name := "fnSigned", fn := fun _ => fun
  | [d1, d2] => { results := [.lit (.bool true)], args := [d1, d2] }
  | _ => none }
def fnSignedRow : OpenClaim := { program := "ytibldgcfplpdkaa", sum := "3dc8304accdf75393ec4f704c02523b162ba4e77e39cd195264ce12d160684ce", func := "loop.example/g01347/laws.FnSigned", spec := "fnSigned", unfollowed := true, recurses := true, apart := false }
def FnSignedSaid : Prop := fnSignedRow.holds Try.pinned (OpenSpec.ofChange fnSignedSpec)

/-- ITS FALSE NEIGHBOUR: 'it returns false'. Refute it at one input. -/
def fnSignedWrong : ChangeSpec := { name := "fnSigned", fn := fun _ => fun
  | [d1, d2] => { results := [.lit (.bool false)], args := [d1, d2] }
  | _ => none }
def FnSignedWrongFalsely : Prop := fnSignedRow.holds Try.pinned (OpenSpec.ofChange fnSignedWrong)

/-- 'laws.FnExactCorrectedAt': WHATEVER THE INPUT: true; the input reads as it did. -/
def fnExactCorrectedAtSpec : ChangeSpec := { name := "fnExactCorrectedAt", fn := fun _ => fun
  | [d1, d2] => { results := [.lit (.bool true)], args := [d1, d2] }
  | _ => none }
def fnExactCorrectedAtRow : OpenClaim := { program := "ytibldgcfplpdkaa", sum := "3dc8304accdf75393ec4f704c02523b162ba4e77e39cd195264ce12d160684ce", func := "loop.example/g01347/laws.FnExactCorrectedAt", spec := "fnExactCorrectedAt", unfollowed := true, recurses := true, apart := false }
def FnExactCorrectedAtSaid : Prop := fnExactCorrectedAtRow.holds Try.pinned (OpenSpec.ofChange fnExactCorrectedAtSpec)

/-- ITS FALSE NEIGHBOUR: 'it returns false'. Refute it at one input. -/
def fnExactCorrectedAtWrong : ChangeSpec := { name := "fnExactCorrectedAt", fn := fun _ => fun
  | [d1, d2] => { results := [.lit (.bool false)], args := [d1, d2] }
  | _ => none }
def FnExactCorrectedAtWrongFalsely : Prop := fnExactCorrectedAtRow.holds Try.pinned (OpenSpec.ofChange fnExactCorrectedAtWrong)

/-- 'laws.FnExactPutLevels': WHATEVER THE INPUT: true; the input reads as it did. -/
def fnExactPutLevelsSpec : ChangeSpec := { name := "fnExactPutLevels", fn := fun _ => fun
  | [d1, d2] => { results := [.lit (.bool true)], args := [d1, d2] }
  | _ => none }
def fnExactPutLevelsRow : OpenClaim := { program := "ytibldgcfplpdkaa", sum := "3dc8304accdf75393ec4f704c02523b162ba4e77e39cd195264ce12d160684ce", func := "loop.example/g01347/laws.FnExactPutLevels", spec := "fnExactPutLevels", inPlace := ["math.Float64bits", "math.Float64frombits"], unfollowed := true, recurses := true, apart := false }
def FnExactPutLevelsSaid : Prop := fnExactPutLevelsRow.holds Try.pinned (OpenSpec.ofChange fnExactPutLevelsSpec)

/-- ITS FALSE NEIGHBOUR: 'it returns false'. Refute it at one input. -/
def fnExactPutLevelsWrong : ChangeSpec := { name := "fnExactPutLevels", fn := fun _ => fun
  | [d1, d2] => { results := [.lit (.bool false)], args := [d1, d2] }
  | _ => none }
def FnExactPutLevelsWrongFalsely : Prop := fnExactPutLevelsRow.holds Try.pinned (OpenSpec.ofChange fnExactPutLevelsWrong)

/-- 'laws.FnExactLevelsQuantile': WHATEVER THE INPUT: true; the input reads as it did. -/
def fnExactLevelsQuantileSpec : ChangeSpec := { name := "fnExactLevelsQuantile", fn := fun _ => fun
  | [d1, d2] => { results := [.lit (.bool true)], args := [d1, d2] }
  | _ => none }
def fnExactLevelsQuantileRow : OpenClaim := { program := "ytibldgcfplpdkaa", sum := "3dc8304accdf75393ec4f704c02523b162ba4e77e39cd195264ce12d160684ce", func := "loop.example/g01347/laws.FnExactLevelsQuantile", spec := "fnExactLevelsQuantile", inPlace := ["math.archCeil", "math.archFloor", "math.Float64bits", "math.Float64frombits", "math.archTrunc"], unfollowed := true, recurses := true, apart := false }
def FnExactLevelsQuantileSaid : Prop := fnExactLevelsQuantileRow.holds Try.pinned (OpenSpec.ofChange fnExactLevelsQuantileSpec)

/-- ITS FALSE NEIGHBOUR: 'it returns false'. Refute it at one input. -/
def fnExactLevelsQuantileWrong : ChangeSpec := { name := "fnExactLevelsQuantile", fn := fun _ => fun
  | [d1, d2] => { results := [.lit (.bool false)], args := [d1, d2] }
  | _ => none }
def FnExactLevelsQuantileWrongFalsely : Prop := fnExactLevelsQuantileRow.holds Try.pinned (OpenSpec.ofChange fnExactLevelsQuantileWrong)

/-- 'laws.FnExactMergeLevels': WHATEVER THE INPUT: true; the input reads as it did. -/
def fnExactMergeLevelsSpec : ChangeSpec := { name := "fnExactMergeLevels", fn := fun _ => fun
  | [d1, d2] => { results := [.lit (.bool true)], args := [d1, d2] }
  | _ => none }
def fnExactMergeLevelsRow : OpenClaim := { program := "ytibldgcfplpdkaa", sum := "3dc8304accdf75393ec4f704c02523b162ba4e77e39cd195264ce12d160684ce", func := "loop.example/g01347/laws.FnExactMergeLevels", spec := "fnExactMergeLevels", inPlace := ["math.Float64bits", "math.Float64frombits"], unfollowed := true, recurses := true, apart := false }
def FnExactMergeLevelsSaid : Prop := fnExactMergeLevelsRow.holds Try.pinned (OpenSpec.ofChange fnExactMergeLevelsSpec)

/-- ITS FALSE NEIGHBOUR: 'it returns false'. Refute it at one input. -/
def fnExactMergeLevelsWrong : ChangeSpec := { name := "fnExactMergeLevels", fn := fun _ => fun
  | [d1, d2] => { results := [.lit (.bool false)], args := [d1, d2] }
  | _ => none }
def FnExactMergeLevelsWrongFalsely : Prop := fnExactMergeLevelsRow.holds Try.pinned (OpenSpec.ofChange fnExactMergeLevelsWrong)

/-- 'laws.FnHalves': WHATEVER THE INPUT: true; the input reads as it did. -/
def fnHalvesSpec : ChangeSpec := { name := "fnHalves", fn := fun _ => fun
  | [d1, d2] => { results := [.lit (.bool true)], args := [d1, d2] }
  | _ => none }
def fnHalvesRow : OpenClaim := { program := "ytibldgcfplpdkaa", sum := "3dc8304accdf75393ec4f704c02523b162ba4e77e39cd195264ce12d160684ce", func := "loop.example/g01347/laws.FnHalves", spec := "fnHalves", inPlace := ["math.Float64bits", "math.Float64frombits", "math.archCeil", "math.archFloor", "math.archTrunc"], unfollowed := true, recurses := true, apart := false }
def FnHalvesSaid : Prop := fnHalvesRow.holds Try.pinned (OpenSpec.ofChange fnHalvesSpec)

/-- ITS FALSE NEIGHBOUR: 'it returns false'. Refute it at one input. -/
def fnHalvesWrong : ChangeSpec := { name := "fnHalves", fn := fun _ => fun
  | [d1, d2] => { results := [.lit (.bool false)], args := [d1, d2] }
  | _ => none }
def FnHalvesWrongFalsely : Prop := fnHalvesRow.holds Try.pinned (OpenSpec.ofChange fnHalvesWrong)

/-- 'laws.FnExactPutWindow': WHATEVER THE INPUT: true; the input reads as it did. -/
def fnExactPutWindowSpec : ChangeSpec := { name := "fnExactPutWindow", fn := fun _ => fun
  | [d1, d2, d3] => { results := [.lit (.bool true)], args := [d1, d2, d3] }
  | _ => none }
def fnExactPutWindowRow : OpenClaim := { program := "ytibldgcfplpdkaa", sum := "3dc8304accdf75393ec4f704c02523b162ba4e77e39cd195264ce12d160684ce", func := "loop.example/g01347/laws.FnExactPutWindow", spec := "fnExactPutWindow", unfollowed := true, recurses := true, apart := false }
def FnExactPutWindowSaid : Prop := fnExactPutWindowRow.holds Try.pinned (OpenSpec.ofChange fnExactPutWindowSpec)

/-- ITS FALSE NEIGHBOUR: 'it returns false'. Refute it at one input. -/
def fnExactPutWindowWrong : ChangeSpec := { name := "fnExactPutWindow", fn := fun _ => fun
  | [d1, d2, d3] => { results := [.lit (.bool false)], args := [d1, d2, d3] }
  | _ => none }
def FnExactPutWindowWrongFalsely : Prop := fnExactPutWindowRow.holds Try.pinned (OpenSpec.ofChange fnExactPutWindowWrong)

/- THE SECOND FORM. 'bulk': how many values and letters a reading holds, each counted each time it is reached (what is shared counts as often as it is met; a slice's spare places count too). A statement '..UptoSaid' is the law's where the arguments, and the package variables that the reading takes, are together of bulk at most 1048576: NARROWER than '..Said'. Prove '..Said' where nothing that the law and all that it calls make is longer than what came in: it says more and counts as full. Else prove '..UptoSaid'. A law counts once. -/
mutual
def uptoBulk {H : Type} : DataW H → Nat
  | .lit (.string bytes) => bytes.length + 1
  | .lit _ => 1
  | .nil => 1
  | .ptr d => uptoBulk d + 1
  | .slice elems spare => uptoBulkAll elems + uptoBulkAll spare + 1
  | .agg parts => uptoBulkAll parts + 1
  | .iface _ d => uptoBulk d + 1
  | .map entries => uptoBulkEntries entries + 1
  | .held _ => 1
def uptoBulkAll {H : Type} : List (DataW H) → Nat
  | [] => 0
  | d :: r => uptoBulk d + uptoBulkAll r
def uptoBulkEntries {H : Type} : List (Lit × DataW H) → Nat
  | [] => 0
  | x :: r => uptoBulkEntry x + uptoBulkEntries r
def uptoBulkEntry {H : Type} : Lit × DataW H → Nat
  | (.string bytes, d) => bytes.length + uptoBulk d + 1
  | (_, d) => uptoBulk d + 1
 end
def uptoSmall : (H : Type) → List (DataW H) → Bool := fun _ ds => decide (uptoBulkAll ds ≤ 1048576)
def OpenSpec.upto (s : _root_.Go.ChangeSpec) : _root_.Go.OpenSpec := { _root_.Go.OpenSpec.ofChange s with cond := some uptoSmall }

/-- 'laws.FnHomes', WHERE WHAT IT READS IS OF BULK AT MOST 1048576: true; the input reads as it did. -/
def fnHomesUptoRow : OpenClaim := { program := "ytibldgcfplpdkaa", sum := "3dc8304accdf75393ec4f704c02523b162ba4e77e39cd195264ce12d160684ce", func := "loop.example/g01347/laws.FnHomes", spec := "fnHomes", unfollowed := true, recurses := true, apart := false, narrowed := true }
def FnHomesUptoSaid : Prop := fnHomesUptoRow.holds Try.pinned (OpenSpec.upto fnHomesSpec)

/-- 'laws.FnLists', WHERE WHAT IT READS IS OF BULK AT MOST 1048576: true; the input reads as it did. -/
def fnListsUptoRow : OpenClaim := { program := "ytibldgcfplpdkaa", sum := "3dc8304accdf75393ec4f704c02523b162ba4e77e39cd195264ce12d160684ce", func := "loop.example/g01347/laws.FnLists", spec := "fnLists", inPlace := ["math.Float64bits", "math.Float64frombits", "math.archCeil", "math.archFloor", "math.archTrunc"], unfollowed := true, recurses := true, apart := false, narrowed := true }
def FnListsUptoSaid : Prop := fnListsUptoRow.holds Try.pinned (OpenSpec.upto fnListsSpec)

/-- 'laws.FnBanded', WHERE WHAT IT READS IS OF BULK AT MOST 1048576: true; the input reads as it did. -/
def fnBandedUptoRow : OpenClaim := { program := "ytibldgcfplpdkaa", sum := "3dc8304accdf75393ec4f704c02523b162ba4e77e39cd195264ce12d160684ce", func := "loop.example/g01347/laws.FnBanded", spec := "fnBanded", inPlace := ["math.Float64bits", "math.Float64frombits", "math.sqrt"], unfollowed := true, recurses := true, apart := false, narrowed := true }
def FnBandedUptoSaid : Prop := fnBandedUptoRow.holds Try.pinned (OpenSpec.upto fnBandedSpec)

/-- 'laws.FnLasts', WHERE WHAT IT READS IS OF BULK AT MOST 1048576: true; the input reads as it did. -/
def fnLastsUptoRow : OpenClaim := { program := "ytibldgcfplpdkaa", sum := "3dc8304accdf75393ec4f704c02523b162ba4e77e39cd195264ce12d160684ce", func := "loop.example/g01347/laws.FnLasts", spec := "fnLasts", inPlace := ["math.Float64bits", "math.Float64frombits"], unfollowed := true, recurses := true, apart := false, narrowed := true }
def FnLastsUptoSaid : Prop := fnLastsUptoRow.holds Try.pinned (OpenSpec.upto fnLastsSpec)

/-- 'laws.FnSieves', WHERE WHAT IT READS IS OF BULK AT MOST 1048576: true; the input reads as it did. -/
def fnSievesUptoRow : OpenClaim := { program := "ytibldgcfplpdkaa", sum := "3dc8304accdf75393ec4f704c02523b162ba4e77e39cd195264ce12d160684ce", func := "loop.example/g01347/laws.FnSieves", spec := "fnSieves", inPlace := ["math.Float64frombits", "math.Float64bits"], unfollowed := true, recurses := true, apart := false, narrowed := true }
def FnSievesUptoSaid : Prop := fnSievesUptoRow.holds Try.pinned (OpenSpec.upto fnSievesSpec)

/-- 'laws.FnSigned', WHERE WHAT IT READS IS OF BULK AT MOST 1048576: true; the input reads as it did. -/
def fnSignedUptoRow : OpenClaim := { program := "ytibldgcfplpdkaa", sum := "3dc8304accdf75393ec4f704c02523b162ba4e77e39cd195264ce12d160684ce", func := "loop.example/g01347/laws.FnSigned", spec := "fnSigned", unfollowed := true, recurses := true, apart := false, narrowed := true }
def FnSignedUptoSaid : Prop := fnSignedUptoRow.holds Try.pinned (OpenSpec.upto fnSignedSpec)

/-- 'laws.FnExactCorrectedAt', WHERE WHAT IT READS IS OF BULK AT MOST 1048576: true; the input reads as it did. -/
def fnExactCorrectedAtUptoRow : OpenClaim := { program := "ytibldgcfplpdkaa", sum := "3dc8304accdf75393ec4f704c02523b162ba4e77e39cd195264ce12d160684ce", func := "loop.example/g01347/laws.FnExactCorrectedAt", spec := "fnExactCorrectedAt", unfollowed := true, recurses := true, apart := false, narrowed := true }
def FnExactCorrectedAtUptoSaid : Prop := fnExactCorrectedAtUptoRow.holds Try.pinned (OpenSpec.upto fnExactCorrectedAtSpec)

/-- 'laws.FnExactPutLevels', WHERE WHAT IT READS IS OF BULK AT MOST 1048576: true; the input reads as it did. -/
def fnExactPutLevelsUptoRow : OpenClaim := { program := "ytibldgcfplpdkaa", sum := "3dc8304accdf75393ec4f704c02523b162ba4e77e39cd195264ce12d160684ce", func := "loop.example/g01347/laws.FnExactPutLevels", spec := "fnExactPutLevels", inPlace := ["math.Float64bits", "math.Float64frombits"], unfollowed := true, recurses := true, apart := false, narrowed := true }
def FnExactPutLevelsUptoSaid : Prop := fnExactPutLevelsUptoRow.holds Try.pinned (OpenSpec.upto fnExactPutLevelsSpec)

/-- 'laws.FnExactLevelsQuantile', WHERE WHAT IT READS IS OF BULK AT MOST 1048576: true; the input reads as it did. -/
def fnExactLevelsQuantileUptoRow : OpenClaim := { program := "ytibldgcfplpdkaa", sum := "3dc8304accdf75393ec4f704c02523b162ba4e77e39cd195264ce12d160684ce", func := "loop.example/g01347/laws.FnExactLevelsQuantile", spec := "fnExactLevelsQuantile", inPlace := ["math.archCeil", "math.archFloor", "math.Float64bits", "math.Float64frombits", "math.archTrunc"], unfollowed := true, recurses := true, apart := false, narrowed := true }
def FnExactLevelsQuantileUptoSaid : Prop := fnExactLevelsQuantileUptoRow.holds Try.pinned (OpenSpec.upto fnExactLevelsQuantileSpec)

/-- 'laws.FnExactMergeLevels', WHERE WHAT IT READS IS OF BULK AT MOST 1048576: true; the input reads as it did. -/
def fnExactMergeLevelsUptoRow : OpenClaim := { program := "ytibldgcfplpdkaa", sum := "3dc8304accdf75393ec4f704c02523b162ba4e77e39cd195264ce12d160684ce", func := "loop.example/g01347/laws.FnExactMergeLevels", spec := "fnExactMergeLevels", inPlace := ["math.Float64bits", "math.Float64frombits"], unfollowed := true, recurses := true, apart := false, narrowed := true }
def FnExactMergeLevelsUptoSaid : Prop := fnExactMergeLevelsUptoRow.holds Try.pinned (OpenSpec.upto fnExactMergeLevelsSpec)

/-- 'laws.FnHalves', WHERE WHAT IT READS IS OF BULK AT MOST 1048576: true; the input reads as it did. -/
def fnHalvesUptoRow : OpenClaim := { program := "ytibldgcfplpdkaa", sum := "3dc8304accdf75393ec4f704c02523b162ba4e77e39cd195264ce12d160684ce", func := "loop.example/g01347/laws.FnHalves", spec := "fnHalves", inPlace := ["math.Float64bits", "math.Float64frombits", "math.archCeil", "math.archFloor", "math.archTrunc"], unfollowed := true, recurses := true, apart := false, narrowed := true }
def FnHalvesUptoSaid : Prop := fnHalvesUptoRow.holds Try.pinned (OpenSpec.upto fnHalvesSpec)

/-- 'laws.FnExactPutWindow', WHERE WHAT IT READS IS OF BULK AT MOST 1048576: true; the input reads as it did. -/
def fnExactPutWindowUptoRow : OpenClaim := { program := "ytibldgcfplpdkaa", sum := "3dc8304accdf75393ec4f704c02523b162ba4e77e39cd195264ce12d160684ce", func := "loop.example/g01347/laws.FnExactPutWindow", spec := "fnExactPutWindow", unfollowed := true, recurses := true, apart := false, narrowed := true }
def FnExactPutWindowUptoSaid : Prop := fnExactPutWindowUptoRow.holds Try.pinned (OpenSpec.upto fnExactPutWindowSpec)

end Rows
end Go.Proofs.Ytibldgcfplpdkaa
