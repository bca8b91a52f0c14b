/-
  No cell of these rows narrows 'for every input' (looked for: loops, veiled, ifaces, maps, wideKeys, modest, calm, conditions, laid).
  DERIVED. THE GIVEN ROWS OF THIS SEAT. 12 by the template 'for every input the law returns true; each argument reads behind the call as it read before'; 0 by the template 'total and deterministic' (their statements: YtmgkbgdbahijnaaTotals.lean).
  GIVEN WITH THE SEED: the statements are not yours to turn. If you find one false, say at which input.
  Laid BY PROGRAM, IN A SANDBOX (cutbox-rows.mjs): the forced cells as the released guide's own fill.sh prints them over the translation 695027ff2029e6fc… (all of the seat's roots in one cut). By AI agents, Wed Nov 11 2026. No macro, syntax, notation, axiom, sorry.
-/
import Derived.Test.YtmgkbgdbahijnaaChecked
import GoSem.Claim
import GoSem.ClaimJoined
import GoSem.ClaimMapViews
import Derived.JoinedTies
import Derived.KernelRfl
namespace Go.Proofs.Ytmgkbgdbahijnaa
/- THE CELL 'sum', in the pinned program and in every row, IS THE sha256 OF THE DUMP (.gsa) THAT YtmgkbgdbahijnaaProg.lean LOADS. Nothing in Lean hashes anything: it is a label: what it is worth is what the hold of that sum in a sandbox is worth. -/
noncomputable def Try.pinned : Pinned := { name := "ytmgkbgdbahijnaa", sum := "695027ff2029e6fc1bf448928e406ae33202ecb34e8a54ae78a6bda7e1aba487", checked := Try.checked }
namespace Rows
def none {H : Type} : Left H := { results := [], args := [] }

/-- 'laws.FnExactIsList': WHATEVER THE INPUT: true; the input reads as it did. -/
def fnExactIsListSpec : ChangeSpec := { name := "fnExactIsList", fn := fun _ => fun
  | [d] => { results := [.lit (.bool true)], args := [d] }
  | _ => none }
def fnExactIsListRow : OpenClaim := { program := "ytmgkbgdbahijnaa", sum := "695027ff2029e6fc1bf448928e406ae33202ecb34e8a54ae78a6bda7e1aba487", func := "loop.example/g01347/laws.FnExactIsList", spec := "fnExactIsList", inPlace := ["math.Float64bits", "math.Float64frombits"], apart := false }
def FnExactIsListSaid : Prop := fnExactIsListRow.holds Try.pinned (OpenSpec.ofChange fnExactIsListSpec)

/-- ITS FALSE NEIGHBOUR: 'it returns false'. Refute it at one input. -/
def fnExactIsListWrong : ChangeSpec := { name := "fnExactIsList", fn := fun _ => fun
  | [d] => { results := [.lit (.bool false)], args := [d] }
  | _ => none }
def FnExactIsListWrongFalsely : Prop := fnExactIsListRow.holds Try.pinned (OpenSpec.ofChange fnExactIsListWrong)

/-- 'laws.FnExactValidSummary': WHATEVER THE INPUT: true; the input reads as it did. -/
def fnExactValidSummarySpec : ChangeSpec := { name := "fnExactValidSummary", fn := fun _ => fun
  | [d] => { results := [.lit (.bool true)], args := [d] }
  | _ => none }
def fnExactValidSummaryRow : OpenClaim := { program := "ytmgkbgdbahijnaa", sum := "695027ff2029e6fc1bf448928e406ae33202ecb34e8a54ae78a6bda7e1aba487", func := "loop.example/g01347/laws.FnExactValidSummary", spec := "fnExactValidSummary", inPlace := ["math.Float64bits", "math.Float64frombits"], apart := false }
def FnExactValidSummarySaid : Prop := fnExactValidSummaryRow.holds Try.pinned (OpenSpec.ofChange fnExactValidSummarySpec)

/-- ITS FALSE NEIGHBOUR: 'it returns false'. Refute it at one input. -/
def fnExactValidSummaryWrong : ChangeSpec := { name := "fnExactValidSummary", fn := fun _ => fun
  | [d] => { results := [.lit (.bool false)], args := [d] }
  | _ => none }
def FnExactValidSummaryWrongFalsely : Prop := fnExactValidSummaryRow.holds Try.pinned (OpenSpec.ofChange fnExactValidSummaryWrong)

/-- 'laws.FnExactSameSummary': WHATEVER THE INPUT: true; the input reads as it did. -/
def fnExactSameSummarySpec : ChangeSpec := { name := "fnExactSameSummary", fn := fun _ => fun
  | [d1, d2] => { results := [.lit (.bool true)], args := [d1, d2] }
  | _ => none }
def fnExactSameSummaryRow : OpenClaim := { program := "ytmgkbgdbahijnaa", sum := "695027ff2029e6fc1bf448928e406ae33202ecb34e8a54ae78a6bda7e1aba487", func := "loop.example/g01347/laws.FnExactSameSummary", spec := "fnExactSameSummary", inPlace := ["math.Float32bits"], unfollowed := true, recurses := true, apart := false }
def FnExactSameSummarySaid : Prop := fnExactSameSummaryRow.holds Try.pinned (OpenSpec.ofChange fnExactSameSummarySpec)

/-- ITS FALSE NEIGHBOUR: 'it returns false'. Refute it at one input. -/
def fnExactSameSummaryWrong : ChangeSpec := { name := "fnExactSameSummary", fn := fun _ => fun
  | [d1, d2] => { results := [.lit (.bool false)], args := [d1, d2] }
  | _ => none }
def FnExactSameSummaryWrongFalsely : Prop := fnExactSameSummaryRow.holds Try.pinned (OpenSpec.ofChange fnExactSameSummaryWrong)

/-- 'laws.FnExactSqueezeSummary': WHATEVER THE INPUT: true; the input reads as it did. -/
def fnExactSqueezeSummarySpec : ChangeSpec := { name := "fnExactSqueezeSummary", fn := fun _ => fun
  | [d] => { results := [.lit (.bool true)], args := [d] }
  | _ => none }
def fnExactSqueezeSummaryRow : OpenClaim := { program := "ytmgkbgdbahijnaa", sum := "695027ff2029e6fc1bf448928e406ae33202ecb34e8a54ae78a6bda7e1aba487", func := "loop.example/g01347/laws.FnExactSqueezeSummary", spec := "fnExactSqueezeSummary", inPlace := ["math.Float64bits", "math.Float64frombits"], apart := false }
def FnExactSqueezeSummarySaid : Prop := fnExactSqueezeSummaryRow.holds Try.pinned (OpenSpec.ofChange fnExactSqueezeSummarySpec)

/-- ITS FALSE NEIGHBOUR: 'it returns false'. Refute it at one input. -/
def fnExactSqueezeSummaryWrong : ChangeSpec := { name := "fnExactSqueezeSummary", fn := fun _ => fun
  | [d] => { results := [.lit (.bool false)], args := [d] }
  | _ => none }
def FnExactSqueezeSummaryWrongFalsely : Prop := fnExactSqueezeSummaryRow.holds Try.pinned (OpenSpec.ofChange fnExactSqueezeSummaryWrong)

/-- 'laws.FnExactRanksOf': WHATEVER THE INPUT: true; the input reads as it did. -/
def fnExactRanksOfSpec : ChangeSpec := { name := "fnExactRanksOf", fn := fun _ => fun
  | [d1, d2] => { results := [.lit (.bool true)], args := [d1, d2] }
  | _ => none }
def fnExactRanksOfRow : OpenClaim := { program := "ytmgkbgdbahijnaa", sum := "695027ff2029e6fc1bf448928e406ae33202ecb34e8a54ae78a6bda7e1aba487", func := "loop.example/g01347/laws.FnExactRanksOf", spec := "fnExactRanksOf", inPlace := ["math.Float64bits", "math.Float64frombits"], apart := false }
def FnExactRanksOfSaid : Prop := fnExactRanksOfRow.holds Try.pinned (OpenSpec.ofChange fnExactRanksOfSpec)

/-- ITS FALSE NEIGHBOUR: 'it returns false'. Refute it at one input. -/
def fnExactRanksOfWrong : ChangeSpec := { name := "fnExactRanksOf", fn := fun _ => fun
  | [d1, d2] => { results := [.lit (.bool false)], args := [d1, d2] }
  | _ => none }
def FnExactRanksOfWrongFalsely : Prop := fnExactRanksOfRow.holds Try.pinned (OpenSpec.ofChange fnExactRanksOfWrong)

/-- 'laws.FnExactSummaryRank': WHATEVER THE INPUT: true; the input reads as it did. -/
def fnExactSummaryRankSpec : ChangeSpec := { name := "fnExactSummaryRank", fn := fun _ => fun
  | [d1, d2] => { results := [.lit (.bool true)], args := [d1, d2] }
  | _ => none }
def fnExactSummaryRankRow : OpenClaim := { program := "ytmgkbgdbahijnaa", sum := "695027ff2029e6fc1bf448928e406ae33202ecb34e8a54ae78a6bda7e1aba487", func := "loop.example/g01347/laws.FnExactSummaryRank", spec := "fnExactSummaryRank", inPlace := ["math.Float64bits", "math.Float64frombits"], unfollowed := true, recurses := true, apart := false }
def FnExactSummaryRankSaid : Prop := fnExactSummaryRankRow.holds Try.pinned (OpenSpec.ofChange fnExactSummaryRankSpec)

/-- ITS FALSE NEIGHBOUR: 'it returns false'. Refute it at one input. -/
def fnExactSummaryRankWrong : ChangeSpec := { name := "fnExactSummaryRank", fn := fun _ => fun
  | [d1, d2] => { results := [.lit (.bool false)], args := [d1, d2] }
  | _ => none }
def FnExactSummaryRankWrongFalsely : Prop := fnExactSummaryRankRow.holds Try.pinned (OpenSpec.ofChange fnExactSummaryRankWrong)

/-- 'laws.FnExactSummaryQuantile': WHATEVER THE INPUT: true; the input reads as it did. -/
def fnExactSummaryQuantileSpec : ChangeSpec := { name := "fnExactSummaryQuantile", fn := fun _ => fun
  | [d1, d2] => { results := [.lit (.bool true)], args := [d1, d2] }
  | _ => none }
def fnExactSummaryQuantileRow : OpenClaim := { program := "ytmgkbgdbahijnaa", sum := "695027ff2029e6fc1bf448928e406ae33202ecb34e8a54ae78a6bda7e1aba487", func := "loop.example/g01347/laws.FnExactSummaryQuantile", spec := "fnExactSummaryQuantile", inPlace := ["math.archCeil", "math.archFloor", "math.Float64bits", "math.Float64frombits", "math.archTrunc"], unfollowed := true, recurses := true, apart := false }
def FnExactSummaryQuantileSaid : Prop := fnExactSummaryQuantileRow.holds Try.pinned (OpenSpec.ofChange fnExactSummaryQuantileSpec)

/-- ITS FALSE NEIGHBOUR: 'it returns false'. Refute it at one input. -/
def fnExactSummaryQuantileWrong : ChangeSpec := { name := "fnExactSummaryQuantile", fn := fun _ => fun
  | [d1, d2] => { results := [.lit (.bool false)], args := [d1, d2] }
  | _ => none }
def FnExactSummaryQuantileWrongFalsely : Prop := fnExactSummaryQuantileRow.holds Try.pinned (OpenSpec.ofChange fnExactSummaryQuantileWrong)

/-- 'laws.FnExactValidLevels': WHATEVER THE INPUT: true; the input reads as it did. -/
def fnExactValidLevelsSpec : ChangeSpec := { name := "fnExactValidLevels", fn := fun _ => fun
  | [d] => { results := [.lit (.bool true)], args := [d] }
  | _ => none }
def fnExactValidLevelsRow : OpenClaim := { program := "ytmgkbgdbahijnaa", sum := "695027ff2029e6fc1bf448928e406ae33202ecb34e8a54ae78a6bda7e1aba487", func := "loop.example/g01347/laws.FnExactValidLevels", spec := "fnExactValidLevels", inPlace := ["math.Float64bits", "math.Float64frombits"], apart := false }
def FnExactValidLevelsSaid : Prop := fnExactValidLevelsRow.holds Try.pinned (OpenSpec.ofChange fnExactValidLevelsSpec)

/-- ITS FALSE NEIGHBOUR: 'it returns false'. Refute it at one input. -/
def fnExactValidLevelsWrong : ChangeSpec := { name := "fnExactValidLevels", fn := fun _ => fun
  | [d] => { results := [.lit (.bool false)], args := [d] }
  | _ => none }
def FnExactValidLevelsWrongFalsely : Prop := fnExactValidLevelsRow.holds Try.pinned (OpenSpec.ofChange fnExactValidLevelsWrong)

/-- 'laws.FnExactLevelsCount': WHATEVER THE INPUT: true; the input reads as it did. -/
def fnExactLevelsCountSpec : ChangeSpec := { name := "fnExactLevelsCount", fn := fun _ => fun
  | [d] => { results := [.lit (.bool true)], args := [d] }
  | _ => none }
def fnExactLevelsCountRow : OpenClaim := { program := "ytmgkbgdbahijnaa", sum := "695027ff2029e6fc1bf448928e406ae33202ecb34e8a54ae78a6bda7e1aba487", func := "loop.example/g01347/laws.FnExactLevelsCount", spec := "fnExactLevelsCount", inPlace := ["math.Float64bits", "math.Float64frombits"], unfollowed := true, recurses := true, apart := false }
def FnExactLevelsCountSaid : Prop := fnExactLevelsCountRow.holds Try.pinned (OpenSpec.ofChange fnExactLevelsCountSpec)

/-- ITS FALSE NEIGHBOUR: 'it returns false'. Refute it at one input. -/
def fnExactLevelsCountWrong : ChangeSpec := { name := "fnExactLevelsCount", fn := fun _ => fun
  | [d] => { results := [.lit (.bool false)], args := [d] }
  | _ => none }
def FnExactLevelsCountWrongFalsely : Prop := fnExactLevelsCountRow.holds Try.pinned (OpenSpec.ofChange fnExactLevelsCountWrong)

/-- 'laws.FnExactLevelsRank': WHATEVER THE INPUT: true; the input reads as it did. -/
def fnExactLevelsRankSpec : ChangeSpec := { name := "fnExactLevelsRank", fn := fun _ => fun
  | [d1, d2] => { results := [.lit (.bool true)], args := [d1, d2] }
  | _ => none }
def fnExactLevelsRankRow : OpenClaim := { program := "ytmgkbgdbahijnaa", sum := "695027ff2029e6fc1bf448928e406ae33202ecb34e8a54ae78a6bda7e1aba487", func := "loop.example/g01347/laws.FnExactLevelsRank", spec := "fnExactLevelsRank", inPlace := ["math.Float64bits", "math.Float64frombits"], unfollowed := true, recurses := true, apart := false }
def FnExactLevelsRankSaid : Prop := fnExactLevelsRankRow.holds Try.pinned (OpenSpec.ofChange fnExactLevelsRankSpec)

/-- ITS FALSE NEIGHBOUR: 'it returns false'. Refute it at one input. -/
def fnExactLevelsRankWrong : ChangeSpec := { name := "fnExactLevelsRank", fn := fun _ => fun
  | [d1, d2] => { results := [.lit (.bool false)], args := [d1, d2] }
  | _ => none }
def FnExactLevelsRankWrongFalsely : Prop := fnExactLevelsRankRow.holds Try.pinned (OpenSpec.ofChange fnExactLevelsRankWrong)

/-- 'laws.FnExactEvenCuts': WHATEVER THE INPUT: true; the input reads as it did. -/
def fnExactEvenCutsSpec : ChangeSpec := { name := "fnExactEvenCuts", fn := fun _ => fun
  | [d1, d2] => { results := [.lit (.bool true)], args := [d1, d2] }
  | _ => none }
def fnExactEvenCutsRow : OpenClaim := { program := "ytmgkbgdbahijnaa", sum := "695027ff2029e6fc1bf448928e406ae33202ecb34e8a54ae78a6bda7e1aba487", func := "loop.example/g01347/laws.FnExactEvenCuts", spec := "fnExactEvenCuts", inPlace := ["math.Float64bits", "math.Float64frombits"], apart := false }
def FnExactEvenCutsSaid : Prop := fnExactEvenCutsRow.holds Try.pinned (OpenSpec.ofChange fnExactEvenCutsSpec)

/-- ITS FALSE NEIGHBOUR: 'it returns false'. Refute it at one input. -/
def fnExactEvenCutsWrong : ChangeSpec := { name := "fnExactEvenCuts", fn := fun _ => fun
  | [d1, d2] => { results := [.lit (.bool false)], args := [d1, d2] }
  | _ => none }
def FnExactEvenCutsWrongFalsely : Prop := fnExactEvenCutsRow.holds Try.pinned (OpenSpec.ofChange fnExactEvenCutsWrong)

/-- 'laws.FnExactLevelsQuantile': WHATEVER THE INPUT: true; the input reads as it did. -/
def fnExactLevelsQuantileSpec : ChangeSpec := { name := "fnExactLevelsQuantile", fn := fun _ => fun
  | [d1, d2] => { results := [.lit (.bool true)], args := [d1, d2] }
  | _ => none }
def fnExactLevelsQuantileRow : OpenClaim := { program := "ytmgkbgdbahijnaa", sum := "695027ff2029e6fc1bf448928e406ae33202ecb34e8a54ae78a6bda7e1aba487", func := "loop.example/g01347/laws.FnExactLevelsQuantile", spec := "fnExactLevelsQuantile", inPlace := ["math.archCeil", "math.archFloor", "math.Float64bits", "math.Float64frombits", "math.archTrunc"], unfollowed := true, recurses := true, apart := false }
def FnExactLevelsQuantileSaid : Prop := fnExactLevelsQuantileRow.holds Try.pinned (OpenSpec.ofChange fnExactLevelsQuantileSpec)

/-- ITS FALSE NEIGHBOUR: 'it returns false'. Refute it at one input. -/
def fnExactLevelsQuantileWrong : ChangeSpec := { name := "fnExactLevelsQuantile", fn := fun _ => fun
  | [d1, d2] => { results := [.lit (.bool false)], args := [d1, d2] }
  | _ => none }
def FnExactLevelsQuantileWrongFalsely : Prop := fnExactLevelsQuantileRow.holds Try.pinned (OpenSpec.ofChange fnExactLevelsQuantileWrong)

/- THE SECOND FORM. 'bulk': how many values and letters a reading holds, each counted each time it is reached (what is shared counts as often as it is met; a slice's spare places count too). A statement '..UptoSaid' is the law's where the arguments, and the package variables that the reading takes, are together of bulk at most 1048576: NARROWER than '..Said'. Prove '..Said' where nothing that the law and all that it calls make is longer than what came in: it says more and counts as full. Else prove '..UptoSaid'. A law counts once. -/
mutual
def uptoBulk {H : Type} : DataW H → Nat
  | .lit (.string bytes) => bytes.length + 1
  | .lit _ => 1
  | .nil => 1
  | .ptr d => uptoBulk d + 1
  | .slice elems spare => uptoBulkAll elems + uptoBulkAll spare + 1
  | .agg parts => uptoBulkAll parts + 1
  | .iface _ d => uptoBulk d + 1
  | .map entries => uptoBulkEntries entries + 1
  | .held _ => 1
def uptoBulkAll {H : Type} : List (DataW H) → Nat
  | [] => 0
  | d :: r => uptoBulk d + uptoBulkAll r
def uptoBulkEntries {H : Type} : List (Lit × DataW H) → Nat
  | [] => 0
  | x :: r => uptoBulkEntry x + uptoBulkEntries r
def uptoBulkEntry {H : Type} : Lit × DataW H → Nat
  | (.string bytes, d) => bytes.length + uptoBulk d + 1
  | (_, d) => uptoBulk d + 1
 end
def uptoSmall : (H : Type) → List (DataW H) → Bool := fun _ ds => decide (uptoBulkAll ds ≤ 1048576)
def OpenSpec.upto (s : _root_.Go.ChangeSpec) : _root_.Go.OpenSpec := { _root_.Go.OpenSpec.ofChange s with cond := some uptoSmall }

/-- 'laws.FnExactIsList', WHERE WHAT IT READS IS OF BULK AT MOST 1048576: true; the input reads as it did. -/
def fnExactIsListUptoRow : OpenClaim := { program := "ytmgkbgdbahijnaa", sum := "695027ff2029e6fc1bf448928e406ae33202ecb34e8a54ae78a6bda7e1aba487", func := "loop.example/g01347/laws.FnExactIsList", spec := "fnExactIsList", inPlace := ["math.Float64bits", "math.Float64frombits"], apart := false, narrowed := true }
def FnExactIsListUptoSaid : Prop := fnExactIsListUptoRow.holds Try.pinned (OpenSpec.upto fnExactIsListSpec)

/-- 'laws.FnExactValidSummary', WHERE WHAT IT READS IS OF BULK AT MOST 1048576: true; the input reads as it did. -/
def fnExactValidSummaryUptoRow : OpenClaim := { program := "ytmgkbgdbahijnaa", sum := "695027ff2029e6fc1bf448928e406ae33202ecb34e8a54ae78a6bda7e1aba487", func := "loop.example/g01347/laws.FnExactValidSummary", spec := "fnExactValidSummary", inPlace := ["math.Float64bits", "math.Float64frombits"], apart := false, narrowed := true }
def FnExactValidSummaryUptoSaid : Prop := fnExactValidSummaryUptoRow.holds Try.pinned (OpenSpec.upto fnExactValidSummarySpec)

/-- 'laws.FnExactSameSummary', WHERE WHAT IT READS IS OF BULK AT MOST 1048576: true; the input reads as it did. -/
def fnExactSameSummaryUptoRow : OpenClaim := { program := "ytmgkbgdbahijnaa", sum := "695027ff2029e6fc1bf448928e406ae33202ecb34e8a54ae78a6bda7e1aba487", func := "loop.example/g01347/laws.FnExactSameSummary", spec := "fnExactSameSummary", inPlace := ["math.Float32bits"], unfollowed := true, recurses := true, apart := false, narrowed := true }
def FnExactSameSummaryUptoSaid : Prop := fnExactSameSummaryUptoRow.holds Try.pinned (OpenSpec.upto fnExactSameSummarySpec)

/-- 'laws.FnExactSqueezeSummary', WHERE WHAT IT READS IS OF BULK AT MOST 1048576: true; the input reads as it did. -/
def fnExactSqueezeSummaryUptoRow : OpenClaim := { program := "ytmgkbgdbahijnaa", sum := "695027ff2029e6fc1bf448928e406ae33202ecb34e8a54ae78a6bda7e1aba487", func := "loop.example/g01347/laws.FnExactSqueezeSummary", spec := "fnExactSqueezeSummary", inPlace := ["math.Float64bits", "math.Float64frombits"], apart := false, narrowed := true }
def FnExactSqueezeSummaryUptoSaid : Prop := fnExactSqueezeSummaryUptoRow.holds Try.pinned (OpenSpec.upto fnExactSqueezeSummarySpec)

/-- 'laws.FnExactRanksOf', WHERE WHAT IT READS IS OF BULK AT MOST 1048576: true; the input reads as it did. -/
def fnExactRanksOfUptoRow : OpenClaim := { program := "ytmgkbgdbahijnaa", sum := "695027ff2029e6fc1bf448928e406ae33202ecb34e8a54ae78a6bda7e1aba487", func := "loop.example/g01347/laws.FnExactRanksOf", spec := "fnExactRanksOf", inPlace := ["math.Float64bits", "math.Float64frombits"], apart := false, narrowed := true }
def FnExactRanksOfUptoSaid : Prop := fnExactRanksOfUptoRow.holds Try.pinned (OpenSpec.upto fnExactRanksOfSpec)

/-- 'laws.FnExactSummaryRank', WHERE WHAT IT READS IS OF BULK AT MOST 1048576: true; the input reads as it did. -/
def fnExactSummaryRankUptoRow : OpenClaim := { program := "ytmgkbgdbahijnaa", sum := "695027ff2029e6fc1bf448928e406ae33202ecb34e8a54ae78a6bda7e1aba487", func := "loop.example/g01347/laws.FnExactSummaryRank", spec := "fnExactSummaryRank", inPlace := ["math.Float64bits", "math.Float64frombits"], unfollowed := true, recurses := true, apart := false, narrowed := true }
def FnExactSummaryRankUptoSaid : Prop := fnExactSummaryRankUptoRow.holds Try.pinned (OpenSpec.upto fnExactSummaryRankSpec)

/-- 'laws.FnExactSummaryQuantile', WHERE WHAT IT READS IS OF BULK AT MOST 1048576: true; the input reads as it did. -/
def fnExactSummaryQuantileUptoRow : OpenClaim := { program := "ytmgkbgdbahijnaa", sum := "695027ff2029e6fc1bf448928e406ae33202ecb34e8a54ae78a6bda7e1aba487", func := "loop.example/g01347/laws.FnExactSummaryQuantile", spec := "fnExactSummaryQuantile", inPlace := ["math.archCeil", "math.archFloor", "math.Float64bits", "math.Float64frombits", "math.archTrunc"], unfollowed := true, recurses := true, apart := false, narrowed := true }
def FnExactSummaryQuantileUptoSaid : Prop := fnExactSummaryQuantileUptoRow.holds Try.pinned (OpenSpec.upto fnExactSummaryQuantileSpec)

/-- 'laws.FnExactValidLevels', WHERE WHAT IT READS IS OF BULK AT MOST 1048576: true; the input reads as it did. -/
def fnExactValidLevelsUptoRow : OpenClaim := { program := "ytmgkbgdbahijnaa", sum := "695027ff2029e6fc1bf448928e406ae33202ecb34e8a54ae78a6bda7e1aba487", func := "loop.example/g01347/laws.FnExactValidLevels", spec := "fnExactValidLevels", inPlace := ["math.Float64bits", "math.Float64frombits"], apart := false, narrowed := true }
def FnExactValidLevelsUptoSaid : Prop := fnExactValidLevelsUptoRow.holds Try.pinned (OpenSpec.upto fnExactValidLevelsSpec)

/-- 'laws.FnExactLevelsCount', WHERE WHAT IT READS IS OF BULK AT MOST 1048576: true; the input reads as it did. -/
def fnExactLevelsCountUptoRow : OpenClaim := { program := "ytmgkbgdbahijnaa", sum := "695027ff2029e6fc1bf448928e406ae33202ecb34e8a54ae78a6bda7e1aba487", func := "loop.example/g01347/laws.FnExactLevelsCount", spec := "fnExactLevelsCount", inPlace := ["math.Float64bits", "math.Float64frombits"], unfollowed := true, recurses := true, apart := false, narrowed := true }
def FnExactLevelsCountUptoSaid : Prop := fnExactLevelsCountUptoRow.holds Try.pinned (OpenSpec.upto fnExactLevelsCountSpec)

/-- 'laws.FnExactLevelsRank', WHERE WHAT IT READS IS OF BULK AT MOST 1048576: true; the input reads as it did. -/
def fnExactLevelsRankUptoRow : OpenClaim := { program := "ytmgkbgdbahijnaa", sum := "695027ff2029e6fc1bf448928e406ae33202ecb34e8a54ae78a6bda7e1aba487", func := "loop.example/g01347/laws.FnExactLevelsRank", spec := "fnExactLevelsRank", inPlace := ["math.Float64bits", "math.Float64frombits"], unfollowed := true, recurses := true, apart := false, narrowed := true }
def FnExactLevelsRankUptoSaid : Prop := fnExactLevelsRankUptoRow.holds Try.pinned (OpenSpec.upto fnExactLevelsRankSpec)

/-- 'laws.FnExactEvenCuts', WHERE WHAT IT READS IS OF BULK AT MOST 1048576: true; the input reads as it did. -/
def fnExactEvenCutsUptoRow : OpenClaim := { program := "ytmgkbgdbahijnaa", sum := "695027ff2029e6fc1bf448928e406ae33202ecb34e8a54ae78a6bda7e1aba487", func := "loop.example/g01347/laws.FnExactEvenCuts", spec := "fnExactEvenCuts", inPlace := ["math.Float64bits", "math.Float64frombits"], apart := false, narrowed := true }
def FnExactEvenCutsUptoSaid : Prop := fnExactEvenCutsUptoRow.holds Try.pinned (OpenSpec.upto fnExactEvenCutsSpec)

/-- 'laws.FnExactLevelsQuantile', WHERE WHAT IT READS IS OF BULK AT MOST 1048576: true; the input reads as it did. -/
def fnExactLevelsQuantileUptoRow : OpenClaim := { program := "ytmgkbgdbahijnaa", sum := "695027ff2029e6fc1bf448928e406ae33202ecb34e8a54ae78a6bda7e1aba487", func := "loop.example/g01347/laws.FnExactLevelsQuantile", spec := "fnExactLevelsQuantile", inPlace := ["math.archCeil", "math.archFloor", "math.Float64bits", "math.Float64frombits", "math.archTrunc"], unfollowed := true, recurses := true, apart := false, narrowed := true }
def FnExactLevelsQuantileUptoSaid : Prop := fnExactLevelsQuantileUptoRow.holds Try.pinned (OpenSpec.upto fnExactLevelsQuantileSpec)

end Rows
end Go.Proofs.Ytmgkbgdbahijnaa
