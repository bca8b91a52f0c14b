/-
  No cell of these rows narrows 'for every input' (looked for: loops, veiled, ifaces, maps, wideKeys, modest, calm, conditions, laid).
  DERIVED. THE GIVEN ROWS OF THIS SEAT. 12 by the template 'for every input the law returns true; each argument reads behind the call as it read before'; 0 by the template 'total and deterministic' (their statements: YtmgkbgdbahijnabTotals.lean).
  GIVEN WITH THE SEED: the statements are not yours to turn. If you find one false, say at which input.
  Laid BY PROGRAM, IN A SANDBOX (cutbox-rows.mjs): the forced cells as the released guide's own fill.sh prints them over the translation aada64db6b2fe39d… (all of the seat's roots in one cut). By AI agents, Wed Nov 11 2026. No macro, syntax, notation, axiom, sorry.
-/
import Derived.Test.YtmgkbgdbahijnabChecked
import GoSem.Claim
import GoSem.ClaimJoined
import GoSem.ClaimMapViews
import Derived.JoinedTies
import Derived.KernelRfl
namespace Go.Proofs.Ytmgkbgdbahijnab
/- THE CELL 'sum', in the pinned program and in every row, IS THE sha256 OF THE DUMP (.gsa) THAT YtmgkbgdbahijnabProg.lean LOADS. Nothing in Lean hashes anything: it is a label: what it is worth is what the hold of that sum in a sandbox is worth. -/
noncomputable def Try.pinned : Pinned := { name := "ytmgkbgdbahijnab", sum := "aada64db6b2fe39dd43ae4d4d35472f38ec3bbfcab4668a6d5cc9ee531f7680a", checked := Try.checked }
namespace Rows
def none {H : Type} : Left H := { results := [], args := [] }

/-- 'laws.FnExactValidClusters': WHATEVER THE INPUT: true; the input reads as it did. -/
def fnExactValidClustersSpec : ChangeSpec := { name := "fnExactValidClusters", fn := fun _ => fun
  | [d] => { results := [.lit (.bool true)], args := [d] }
  | _ => none }
def fnExactValidClustersRow : OpenClaim := { program := "ytmgkbgdbahijnab", sum := "aada64db6b2fe39dd43ae4d4d35472f38ec3bbfcab4668a6d5cc9ee531f7680a", func := "loop.example/g01347/laws.FnExactValidClusters", spec := "fnExactValidClusters", inPlace := ["math.Float64bits", "math.Float64frombits"], apart := false }
def FnExactValidClustersSaid : Prop := fnExactValidClustersRow.holds Try.pinned (OpenSpec.ofChange fnExactValidClustersSpec)

/-- ITS FALSE NEIGHBOUR: 'it returns false'. Refute it at one input. -/
def fnExactValidClustersWrong : ChangeSpec := { name := "fnExactValidClusters", fn := fun _ => fun
  | [d] => { results := [.lit (.bool false)], args := [d] }
  | _ => none }
def FnExactValidClustersWrongFalsely : Prop := fnExactValidClustersRow.holds Try.pinned (OpenSpec.ofChange fnExactValidClustersWrong)

/-- 'laws.FnExactShrinkClusters': WHATEVER THE INPUT: true; the input reads as it did. -/
def fnExactShrinkClustersSpec : ChangeSpec := { name := "fnExactShrinkClusters", fn := fun _ => fun
  | [d] => { results := [.lit (.bool true)], args := [d] }
  | _ => none }
def fnExactShrinkClustersRow : OpenClaim := { program := "ytmgkbgdbahijnab", sum := "aada64db6b2fe39dd43ae4d4d35472f38ec3bbfcab4668a6d5cc9ee531f7680a", func := "loop.example/g01347/laws.FnExactShrinkClusters", spec := "fnExactShrinkClusters", inPlace := ["math.Float64bits", "math.Float64frombits"], apart := false }
def FnExactShrinkClustersSaid : Prop := fnExactShrinkClustersRow.holds Try.pinned (OpenSpec.ofChange fnExactShrinkClustersSpec)

/-- ITS FALSE NEIGHBOUR: 'it returns false'. Refute it at one input. -/
def fnExactShrinkClustersWrong : ChangeSpec := { name := "fnExactShrinkClusters", fn := fun _ => fun
  | [d] => { results := [.lit (.bool false)], args := [d] }
  | _ => none }
def FnExactShrinkClustersWrongFalsely : Prop := fnExactShrinkClustersRow.holds Try.pinned (OpenSpec.ofChange fnExactShrinkClustersWrong)

/-- 'laws.FnExactPutCluster': WHATEVER THE INPUT: true; the input reads as it did. -/
def fnExactPutClusterSpec : ChangeSpec := { name := "fnExactPutCluster", fn := fun _ => fun
  | [d1, d2] => { results := [.lit (.bool true)], args := [d1, d2] }
  | _ => none }
def fnExactPutClusterRow : OpenClaim := { program := "ytmgkbgdbahijnab", sum := "aada64db6b2fe39dd43ae4d4d35472f38ec3bbfcab4668a6d5cc9ee531f7680a", func := "loop.example/g01347/laws.FnExactPutCluster", spec := "fnExactPutCluster", inPlace := ["math.Float64bits", "math.Float64frombits", "slices.overlaps[float32]", "slices.overlaps[int64]"], unfollowed := true, recurses := true, apart := false }
def FnExactPutClusterSaid : Prop := fnExactPutClusterRow.holds Try.pinned (OpenSpec.ofChange fnExactPutClusterSpec)

/-- ITS FALSE NEIGHBOUR: 'it returns false'. Refute it at one input. -/
def fnExactPutClusterWrong : ChangeSpec := { name := "fnExactPutCluster", fn := fun _ => fun
  | [d1, d2] => { results := [.lit (.bool false)], args := [d1, d2] }
  | _ => none }
def FnExactPutClusterWrongFalsely : Prop := fnExactPutClusterRow.holds Try.pinned (OpenSpec.ofChange fnExactPutClusterWrong)

/-- 'laws.FnExactClustersQuantile': WHATEVER THE INPUT: true; the input reads as it did. -/
def fnExactClustersQuantileSpec : ChangeSpec := { name := "fnExactClustersQuantile", fn := fun _ => fun
  | [d1, d2] => { results := [.lit (.bool true)], args := [d1, d2] }
  | _ => none }
def fnExactClustersQuantileRow : OpenClaim := { program := "ytmgkbgdbahijnab", sum := "aada64db6b2fe39dd43ae4d4d35472f38ec3bbfcab4668a6d5cc9ee531f7680a", func := "loop.example/g01347/laws.FnExactClustersQuantile", spec := "fnExactClustersQuantile", inPlace := ["math.Float64bits", "math.Float64frombits"], unfollowed := true, recurses := true, apart := false }
def FnExactClustersQuantileSaid : Prop := fnExactClustersQuantileRow.holds Try.pinned (OpenSpec.ofChange fnExactClustersQuantileSpec)

/-- ITS FALSE NEIGHBOUR: 'it returns false'. Refute it at one input. -/
def fnExactClustersQuantileWrong : ChangeSpec := { name := "fnExactClustersQuantile", fn := fun _ => fun
  | [d1, d2] => { results := [.lit (.bool false)], args := [d1, d2] }
  | _ => none }
def FnExactClustersQuantileWrongFalsely : Prop := fnExactClustersQuantileRow.holds Try.pinned (OpenSpec.ofChange fnExactClustersQuantileWrong)

/-- 'laws.FnExactClustersBelow': WHATEVER THE INPUT: true; the input reads as it did. -/
def fnExactClustersBelowSpec : ChangeSpec := { name := "fnExactClustersBelow", fn := fun _ => fun
  | [d1, d2] => { results := [.lit (.bool true)], args := [d1, d2] }
  | _ => none }
def fnExactClustersBelowRow : OpenClaim := { program := "ytmgkbgdbahijnab", sum := "aada64db6b2fe39dd43ae4d4d35472f38ec3bbfcab4668a6d5cc9ee531f7680a", func := "loop.example/g01347/laws.FnExactClustersBelow", spec := "fnExactClustersBelow", inPlace := ["math.Float64bits", "math.Float64frombits"], unfollowed := true, recurses := true, apart := false }
def FnExactClustersBelowSaid : Prop := fnExactClustersBelowRow.holds Try.pinned (OpenSpec.ofChange fnExactClustersBelowSpec)

/-- ITS FALSE NEIGHBOUR: 'it returns false'. Refute it at one input. -/
def fnExactClustersBelowWrong : ChangeSpec := { name := "fnExactClustersBelow", fn := fun _ => fun
  | [d1, d2] => { results := [.lit (.bool false)], args := [d1, d2] }
  | _ => none }
def FnExactClustersBelowWrongFalsely : Prop := fnExactClustersBelowRow.holds Try.pinned (OpenSpec.ofChange fnExactClustersBelowWrong)

/-- 'laws.FnExactBestCuts': WHATEVER THE INPUT: true; the input reads as it did. -/
def fnExactBestCutsSpec : ChangeSpec := { name := "fnExactBestCuts", fn := fun _ => fun
  | [d1, d2] => { results := [.lit (.bool true)], args := [d1, d2] }
  | _ => none }
def fnExactBestCutsRow : OpenClaim := { program := "ytmgkbgdbahijnab", sum := "aada64db6b2fe39dd43ae4d4d35472f38ec3bbfcab4668a6d5cc9ee531f7680a", func := "loop.example/g01347/laws.FnExactBestCuts", spec := "fnExactBestCuts", inPlace := ["math.Float64bits", "math.Float64frombits"], unfollowed := true, recurses := true, apart := false }
def FnExactBestCutsSaid : Prop := fnExactBestCutsRow.holds Try.pinned (OpenSpec.ofChange fnExactBestCutsSpec)

/-- ITS FALSE NEIGHBOUR: 'it returns false'. Refute it at one input. -/
def fnExactBestCutsWrong : ChangeSpec := { name := "fnExactBestCuts", fn := fun _ => fun
  | [d1, d2] => { results := [.lit (.bool false)], args := [d1, d2] }
  | _ => none }
def FnExactBestCutsWrongFalsely : Prop := fnExactBestCutsRow.holds Try.pinned (OpenSpec.ofChange fnExactBestCutsWrong)

/-- 'laws.FnExactSortedOf': WHATEVER THE INPUT: true; the input reads as it did. -/
def fnExactSortedOfSpec : ChangeSpec := { name := "fnExactSortedOf", fn := fun _ => fun
  | [d] => { results := [.lit (.bool true)], args := [d] }
  | _ => none }
def fnExactSortedOfRow : OpenClaim := { program := "ytmgkbgdbahijnab", sum := "aada64db6b2fe39dd43ae4d4d35472f38ec3bbfcab4668a6d5cc9ee531f7680a", func := "loop.example/g01347/laws.FnExactSortedOf", spec := "fnExactSortedOf", inPlace := ["math.Float64bits", "math.Float64frombits"], unfollowed := true, recurses := true, apart := false }
def FnExactSortedOfSaid : Prop := fnExactSortedOfRow.holds Try.pinned (OpenSpec.ofChange fnExactSortedOfSpec)

/-- ITS FALSE NEIGHBOUR: 'it returns false'. Refute it at one input. -/
def fnExactSortedOfWrong : ChangeSpec := { name := "fnExactSortedOf", fn := fun _ => fun
  | [d] => { results := [.lit (.bool false)], args := [d] }
  | _ => none }
def FnExactSortedOfWrongFalsely : Prop := fnExactSortedOfRow.holds Try.pinned (OpenSpec.ofChange fnExactSortedOfWrong)

/-- 'laws.FnExactRankIn': WHATEVER THE INPUT: true; the input reads as it did. -/
def fnExactRankInSpec : ChangeSpec := { name := "fnExactRankIn", fn := fun _ => fun
  | [d1, d2] => { results := [.lit (.bool true)], args := [d1, d2] }
  | _ => none }
def fnExactRankInRow : OpenClaim := { program := "ytmgkbgdbahijnab", sum := "aada64db6b2fe39dd43ae4d4d35472f38ec3bbfcab4668a6d5cc9ee531f7680a", func := "loop.example/g01347/laws.FnExactRankIn", spec := "fnExactRankIn", inPlace := ["math.Float64bits", "math.Float64frombits"], unfollowed := true, recurses := true, apart := false }
def FnExactRankInSaid : Prop := fnExactRankInRow.holds Try.pinned (OpenSpec.ofChange fnExactRankInSpec)

/-- ITS FALSE NEIGHBOUR: 'it returns false'. Refute it at one input. -/
def fnExactRankInWrong : ChangeSpec := { name := "fnExactRankIn", fn := fun _ => fun
  | [d1, d2] => { results := [.lit (.bool false)], args := [d1, d2] }
  | _ => none }
def FnExactRankInWrongFalsely : Prop := fnExactRankInRow.holds Try.pinned (OpenSpec.ofChange fnExactRankInWrong)

/-- 'laws.FnExactQuantileIn': WHATEVER THE INPUT: true; the input reads as it did. -/
def fnExactQuantileInSpec : ChangeSpec := { name := "fnExactQuantileIn", fn := fun _ => fun
  | [d1, d2] => { results := [.lit (.bool true)], args := [d1, d2] }
  | _ => none }
def fnExactQuantileInRow : OpenClaim := { program := "ytmgkbgdbahijnab", sum := "aada64db6b2fe39dd43ae4d4d35472f38ec3bbfcab4668a6d5cc9ee531f7680a", func := "loop.example/g01347/laws.FnExactQuantileIn", spec := "fnExactQuantileIn", inPlace := ["math.archCeil", "math.archFloor", "math.Float64bits", "math.Float64frombits", "math.archTrunc"], unfollowed := true, recurses := true, apart := false }
def FnExactQuantileInSaid : Prop := fnExactQuantileInRow.holds Try.pinned (OpenSpec.ofChange fnExactQuantileInSpec)

/-- ITS FALSE NEIGHBOUR: 'it returns false'. Refute it at one input. -/
def fnExactQuantileInWrong : ChangeSpec := { name := "fnExactQuantileIn", fn := fun _ => fun
  | [d1, d2] => { results := [.lit (.bool false)], args := [d1, d2] }
  | _ => none }
def FnExactQuantileInWrongFalsely : Prop := fnExactQuantileInRow.holds Try.pinned (OpenSpec.ofChange fnExactQuantileInWrong)

/-- 'laws.FnExactPutSummary': WHATEVER THE INPUT: true; the input reads as it did. -/
def fnExactPutSummarySpec : ChangeSpec := { name := "fnExactPutSummary", fn := fun _ => fun
  | [d1, d2] => { results := [.lit (.bool true)], args := [d1, d2] }
  | _ => none }
def fnExactPutSummaryRow : OpenClaim := { program := "ytmgkbgdbahijnab", sum := "aada64db6b2fe39dd43ae4d4d35472f38ec3bbfcab4668a6d5cc9ee531f7680a", func := "loop.example/g01347/laws.FnExactPutSummary", spec := "fnExactPutSummary", inPlace := ["math.Float64bits", "math.Float64frombits"], unfollowed := true, recurses := true, apart := false }
def FnExactPutSummarySaid : Prop := fnExactPutSummaryRow.holds Try.pinned (OpenSpec.ofChange fnExactPutSummarySpec)

/-- ITS FALSE NEIGHBOUR: 'it returns false'. Refute it at one input. -/
def fnExactPutSummaryWrong : ChangeSpec := { name := "fnExactPutSummary", fn := fun _ => fun
  | [d1, d2] => { results := [.lit (.bool false)], args := [d1, d2] }
  | _ => none }
def FnExactPutSummaryWrongFalsely : Prop := fnExactPutSummaryRow.holds Try.pinned (OpenSpec.ofChange fnExactPutSummaryWrong)

/-- 'laws.FnExactMergeSummaries': WHATEVER THE INPUT: true; the input reads as it did. -/
def fnExactMergeSummariesSpec : ChangeSpec := { name := "fnExactMergeSummaries", fn := fun _ => fun
  | [d1, d2] => { results := [.lit (.bool true)], args := [d1, d2] }
  | _ => none }
def fnExactMergeSummariesRow : OpenClaim := { program := "ytmgkbgdbahijnab", sum := "aada64db6b2fe39dd43ae4d4d35472f38ec3bbfcab4668a6d5cc9ee531f7680a", func := "loop.example/g01347/laws.FnExactMergeSummaries", spec := "fnExactMergeSummaries", inPlace := ["math.Float64bits", "math.Float64frombits"], unfollowed := true, recurses := true, apart := false }
def FnExactMergeSummariesSaid : Prop := fnExactMergeSummariesRow.holds Try.pinned (OpenSpec.ofChange fnExactMergeSummariesSpec)

/-- ITS FALSE NEIGHBOUR: 'it returns false'. Refute it at one input. -/
def fnExactMergeSummariesWrong : ChangeSpec := { name := "fnExactMergeSummaries", fn := fun _ => fun
  | [d1, d2] => { results := [.lit (.bool false)], args := [d1, d2] }
  | _ => none }
def FnExactMergeSummariesWrongFalsely : Prop := fnExactMergeSummariesRow.holds Try.pinned (OpenSpec.ofChange fnExactMergeSummariesWrong)

/-- 'laws.FnExactPutLevels': WHATEVER THE INPUT: true; the input reads as it did. -/
def fnExactPutLevelsSpec : ChangeSpec := { name := "fnExactPutLevels", fn := fun _ => fun
  | [d1, d2] => { results := [.lit (.bool true)], args := [d1, d2] }
  | _ => none }
def fnExactPutLevelsRow : OpenClaim := { program := "ytmgkbgdbahijnab", sum := "aada64db6b2fe39dd43ae4d4d35472f38ec3bbfcab4668a6d5cc9ee531f7680a", func := "loop.example/g01347/laws.FnExactPutLevels", spec := "fnExactPutLevels", inPlace := ["math.Float64bits", "math.Float64frombits"], unfollowed := true, recurses := true, apart := false }
def FnExactPutLevelsSaid : Prop := fnExactPutLevelsRow.holds Try.pinned (OpenSpec.ofChange fnExactPutLevelsSpec)

/-- ITS FALSE NEIGHBOUR: 'it returns false'. Refute it at one input. -/
def fnExactPutLevelsWrong : ChangeSpec := { name := "fnExactPutLevels", fn := fun _ => fun
  | [d1, d2] => { results := [.lit (.bool false)], args := [d1, d2] }
  | _ => none }
def FnExactPutLevelsWrongFalsely : Prop := fnExactPutLevelsRow.holds Try.pinned (OpenSpec.ofChange fnExactPutLevelsWrong)

/- THE SECOND FORM. 'bulk': how many values and letters a reading holds, each counted each time it is reached (what is shared counts as often as it is met; a slice's spare places count too). A statement '..UptoSaid' is the law's where the arguments, and the package variables that the reading takes, are together of bulk at most 1048576: NARROWER than '..Said'. Prove '..Said' where nothing that the law and all that it calls make is longer than what came in: it says more and counts as full. Else prove '..UptoSaid'. A law counts once. -/
mutual
def uptoBulk {H : Type} : DataW H → Nat
  | .lit (.string bytes) => bytes.length + 1
  | .lit _ => 1
  | .nil => 1
  | .ptr d => uptoBulk d + 1
  | .slice elems spare => uptoBulkAll elems + uptoBulkAll spare + 1
  | .agg parts => uptoBulkAll parts + 1
  | .iface _ d => uptoBulk d + 1
  | .map entries => uptoBulkEntries entries + 1
  | .held _ => 1
def uptoBulkAll {H : Type} : List (DataW H) → Nat
  | [] => 0
  | d :: r => uptoBulk d + uptoBulkAll r
def uptoBulkEntries {H : Type} : List (Lit × DataW H) → Nat
  | [] => 0
  | x :: r => uptoBulkEntry x + uptoBulkEntries r
def uptoBulkEntry {H : Type} : Lit × DataW H → Nat
  | (.string bytes, d) => bytes.length + uptoBulk d + 1
  | (_, d) => uptoBulk d + 1
 end
def uptoSmall : (H : Type) → List (DataW H) → Bool := fun _ ds => decide (uptoBulkAll ds ≤ 1048576)
def OpenSpec.upto (s : _root_.Go.ChangeSpec) : _root_.Go.OpenSpec := { _root_.Go.OpenSpec.ofChange s with cond := some uptoSmall }

/-- 'laws.FnExactValidClusters', WHERE WHAT IT READS IS OF BULK AT MOST 1048576: true; the input reads as it did. -/
def fnExactValidClustersUptoRow : OpenClaim := { program := "ytmgkbgdbahijnab", sum := "aada64db6b2fe39dd43ae4d4d35472f38ec3bbfcab4668a6d5cc9ee531f7680a", func := "loop.example/g01347/laws.FnExactValidClusters", spec := "fnExactValidClusters", inPlace := ["math.Float64bits", "math.Float64frombits"], apart := false, narrowed := true }
def FnExactValidClustersUptoSaid : Prop := fnExactValidClustersUptoRow.holds Try.pinned (OpenSpec.upto fnExactValidClustersSpec)

/-- 'laws.FnExactShrinkClusters', WHERE WHAT IT READS IS OF BULK AT MOST 1048576: true; the input reads as it did. -/
def fnExactShrinkClustersUptoRow : OpenClaim := { program := "ytmgkbgdbahijnab", sum := "aada64db6b2fe39dd43ae4d4d35472f38ec3bbfcab4668a6d5cc9ee531f7680a", func := "loop.example/g01347/laws.FnExactShrinkClusters", spec := "fnExactShrinkClusters", inPlace := ["math.Float64bits", "math.Float64frombits"], apart := false, narrowed := true }
def FnExactShrinkClustersUptoSaid : Prop := fnExactShrinkClustersUptoRow.holds Try.pinned (OpenSpec.upto fnExactShrinkClustersSpec)

/-- 'laws.FnExactPutCluster', WHERE WHAT IT READS IS OF BULK AT MOST 1048576: true; the input reads as it did. -/
def fnExactPutClusterUptoRow : OpenClaim := { program := "ytmgkbgdbahijnab", sum := "aada64db6b2fe39dd43ae4d4d35472f38ec3bbfcab4668a6d5cc9ee531f7680a", func := "loop.example/g01347/laws.FnExactPutCluster", spec := "fnExactPutCluster", inPlace := ["math.Float64bits", "math.Float64frombits", "slices.overlaps[float32]", "slices.overlaps[int64]"], unfollowed := true, recurses := true, apart := false, narrowed := true }
def FnExactPutClusterUptoSaid : Prop := fnExactPutClusterUptoRow.holds Try.pinned (OpenSpec.upto fnExactPutClusterSpec)

/-- 'laws.FnExactClustersQuantile', WHERE WHAT IT READS IS OF BULK AT MOST 1048576: true; the input reads as it did. -/
def fnExactClustersQuantileUptoRow : OpenClaim := { program := "ytmgkbgdbahijnab", sum := "aada64db6b2fe39dd43ae4d4d35472f38ec3bbfcab4668a6d5cc9ee531f7680a", func := "loop.example/g01347/laws.FnExactClustersQuantile", spec := "fnExactClustersQuantile", inPlace := ["math.Float64bits", "math.Float64frombits"], unfollowed := true, recurses := true, apart := false, narrowed := true }
def FnExactClustersQuantileUptoSaid : Prop := fnExactClustersQuantileUptoRow.holds Try.pinned (OpenSpec.upto fnExactClustersQuantileSpec)

/-- 'laws.FnExactClustersBelow', WHERE WHAT IT READS IS OF BULK AT MOST 1048576: true; the input reads as it did. -/
def fnExactClustersBelowUptoRow : OpenClaim := { program := "ytmgkbgdbahijnab", sum := "aada64db6b2fe39dd43ae4d4d35472f38ec3bbfcab4668a6d5cc9ee531f7680a", func := "loop.example/g01347/laws.FnExactClustersBelow", spec := "fnExactClustersBelow", inPlace := ["math.Float64bits", "math.Float64frombits"], unfollowed := true, recurses := true, apart := false, narrowed := true }
def FnExactClustersBelowUptoSaid : Prop := fnExactClustersBelowUptoRow.holds Try.pinned (OpenSpec.upto fnExactClustersBelowSpec)

/-- 'laws.FnExactBestCuts', WHERE WHAT IT READS IS OF BULK AT MOST 1048576: true; the input reads as it did. -/
def fnExactBestCutsUptoRow : OpenClaim := { program := "ytmgkbgdbahijnab", sum := "aada64db6b2fe39dd43ae4d4d35472f38ec3bbfcab4668a6d5cc9ee531f7680a", func := "loop.example/g01347/laws.FnExactBestCuts", spec := "fnExactBestCuts", inPlace := ["math.Float64bits", "math.Float64frombits"], unfollowed := true, recurses := true, apart := false, narrowed := true }
def FnExactBestCutsUptoSaid : Prop := fnExactBestCutsUptoRow.holds Try.pinned (OpenSpec.upto fnExactBestCutsSpec)

/-- 'laws.FnExactSortedOf', WHERE WHAT IT READS IS OF BULK AT MOST 1048576: true; the input reads as it did. -/
def fnExactSortedOfUptoRow : OpenClaim := { program := "ytmgkbgdbahijnab", sum := "aada64db6b2fe39dd43ae4d4d35472f38ec3bbfcab4668a6d5cc9ee531f7680a", func := "loop.example/g01347/laws.FnExactSortedOf", spec := "fnExactSortedOf", inPlace := ["math.Float64bits", "math.Float64frombits"], unfollowed := true, recurses := true, apart := false, narrowed := true }
def FnExactSortedOfUptoSaid : Prop := fnExactSortedOfUptoRow.holds Try.pinned (OpenSpec.upto fnExactSortedOfSpec)

/-- 'laws.FnExactRankIn', WHERE WHAT IT READS IS OF BULK AT MOST 1048576: true; the input reads as it did. -/
def fnExactRankInUptoRow : OpenClaim := { program := "ytmgkbgdbahijnab", sum := "aada64db6b2fe39dd43ae4d4d35472f38ec3bbfcab4668a6d5cc9ee531f7680a", func := "loop.example/g01347/laws.FnExactRankIn", spec := "fnExactRankIn", inPlace := ["math.Float64bits", "math.Float64frombits"], unfollowed := true, recurses := true, apart := false, narrowed := true }
def FnExactRankInUptoSaid : Prop := fnExactRankInUptoRow.holds Try.pinned (OpenSpec.upto fnExactRankInSpec)

/-- 'laws.FnExactQuantileIn', WHERE WHAT IT READS IS OF BULK AT MOST 1048576: true; the input reads as it did. -/
def fnExactQuantileInUptoRow : OpenClaim := { program := "ytmgkbgdbahijnab", sum := "aada64db6b2fe39dd43ae4d4d35472f38ec3bbfcab4668a6d5cc9ee531f7680a", func := "loop.example/g01347/laws.FnExactQuantileIn", spec := "fnExactQuantileIn", inPlace := ["math.archCeil", "math.archFloor", "math.Float64bits", "math.Float64frombits", "math.archTrunc"], unfollowed := true, recurses := true, apart := false, narrowed := true }
def FnExactQuantileInUptoSaid : Prop := fnExactQuantileInUptoRow.holds Try.pinned (OpenSpec.upto fnExactQuantileInSpec)

/-- 'laws.FnExactPutSummary', WHERE WHAT IT READS IS OF BULK AT MOST 1048576: true; the input reads as it did. -/
def fnExactPutSummaryUptoRow : OpenClaim := { program := "ytmgkbgdbahijnab", sum := "aada64db6b2fe39dd43ae4d4d35472f38ec3bbfcab4668a6d5cc9ee531f7680a", func := "loop.example/g01347/laws.FnExactPutSummary", spec := "fnExactPutSummary", inPlace := ["math.Float64bits", "math.Float64frombits"], unfollowed := true, recurses := true, apart := false, narrowed := true }
def FnExactPutSummaryUptoSaid : Prop := fnExactPutSummaryUptoRow.holds Try.pinned (OpenSpec.upto fnExactPutSummarySpec)

/-- 'laws.FnExactMergeSummaries', WHERE WHAT IT READS IS OF BULK AT MOST 1048576: true; the input reads as it did. -/
def fnExactMergeSummariesUptoRow : OpenClaim := { program := "ytmgkbgdbahijnab", sum := "aada64db6b2fe39dd43ae4d4d35472f38ec3bbfcab4668a6d5cc9ee531f7680a", func := "loop.example/g01347/laws.FnExactMergeSummaries", spec := "fnExactMergeSummaries", inPlace := ["math.Float64bits", "math.Float64frombits"], unfollowed := true, recurses := true, apart := false, narrowed := true }
def FnExactMergeSummariesUptoSaid : Prop := fnExactMergeSummariesUptoRow.holds Try.pinned (OpenSpec.upto fnExactMergeSummariesSpec)

/-- 'laws.FnExactPutLevels', WHERE WHAT IT READS IS OF BULK AT MOST 1048576: true; the input reads as it did. -/
def fnExactPutLevelsUptoRow : OpenClaim := { program := "ytmgkbgdbahijnab", sum := "aada64db6b2fe39dd43ae4d4d35472f38ec3bbfcab4668a6d5cc9ee531f7680a", func := "loop.example/g01347/laws.FnExactPutLevels", spec := "fnExactPutLevels", inPlace := ["math.Float64bits", "math.Float64frombits"], unfollowed := true, recurses := true, apart := false, narrowed := true }
def FnExactPutLevelsUptoSaid : Prop := fnExactPutLevelsUptoRow.holds Try.pinned (OpenSpec.upto fnExactPutLevelsSpec)

end Rows
end Go.Proofs.Ytmgkbgdbahijnab
