/-
  No cell of these rows narrows 'for every input' (looked for: loops, veiled, ifaces, maps, wideKeys, modest, calm, conditions, laid).
  DERIVED. THE GIVEN ROWS OF THIS SEAT. 12 by the template 'for every input the law returns true; each argument reads behind the call as it read before'; 0 by the template 'total and deterministic' (their statements: YtmlnnnagbkknhabTotals.lean).
  GIVEN WITH THE SEED: the statements are not yours to turn. If you find one false, say at which input.
  Laid BY PROGRAM, IN A SANDBOX (cutbox-rows.mjs): the forced cells as the released guide's own fill.sh prints them over the translation 4bd47de4322ed672… (all of the seat's roots in one cut). By AI agents, Wed Nov 11 2026. No macro, syntax, notation, axiom, sorry.
-/
import Derived.Test.YtmlnnnagbkknhabChecked
import GoSem.Claim
import GoSem.ClaimJoined
import GoSem.ClaimMapViews
import Derived.JoinedTies
import Derived.KernelRfl
namespace Go.Proofs.Ytmlnnnagbkknhab
/- THE CELL 'sum', in the pinned program and in every row, IS THE sha256 OF THE DUMP (.gsa) THAT YtmlnnnagbkknhabProg.lean LOADS. Nothing in Lean hashes anything: it is a label: what it is worth is what the hold of that sum in a sandbox is worth. -/
noncomputable def Try.pinned : Pinned := { name := "ytmlnnnagbkknhab", sum := "4bd47de4322ed6723c54b8e9b3daa25870c911d10609a5dac02739a9fab3965b", checked := Try.checked }
namespace Rows
def none {H : Type} : Left H := { results := [], args := [] }

/-- 'laws.FnExactValidDecay': WHATEVER THE INPUT: true; the input reads as it did. -/
def fnExactValidDecaySpec : ChangeSpec := { name := "fnExactValidDecay", fn := fun _ => fun
  | [d] => { results := [.lit (.bool true)], args := [d] }
  | _ => none }
def fnExactValidDecayRow : OpenClaim := { program := "ytmlnnnagbkknhab", sum := "4bd47de4322ed6723c54b8e9b3daa25870c911d10609a5dac02739a9fab3965b", func := "loop.example/g01347/laws.FnExactValidDecay", spec := "fnExactValidDecay", inPlace := ["math.Float64bits", "math.Float64frombits"], apart := false }
def FnExactValidDecaySaid : Prop := fnExactValidDecayRow.holds Try.pinned (OpenSpec.ofChange fnExactValidDecaySpec)

/-- ITS FALSE NEIGHBOUR: 'it returns false'. Refute it at one input. -/
def fnExactValidDecayWrong : ChangeSpec := { name := "fnExactValidDecay", fn := fun _ => fun
  | [d] => { results := [.lit (.bool false)], args := [d] }
  | _ => none }
def FnExactValidDecayWrongFalsely : Prop := fnExactValidDecayRow.holds Try.pinned (OpenSpec.ofChange fnExactValidDecayWrong)

/-- 'laws.FnExactSameDecay': WHATEVER THE INPUT: true; the input reads as it did. -/
def fnExactSameDecaySpec : ChangeSpec := { name := "fnExactSameDecay", fn := fun _ => fun
  | [d1, d2] => { results := [.lit (.bool true)], args := [d1, d2] }
  | _ => none }
def fnExactSameDecayRow : OpenClaim := { program := "ytmlnnnagbkknhab", sum := "4bd47de4322ed6723c54b8e9b3daa25870c911d10609a5dac02739a9fab3965b", func := "loop.example/g01347/laws.FnExactSameDecay", spec := "fnExactSameDecay", inPlace := ["math.Float32bits"], apart := false }
def FnExactSameDecaySaid : Prop := fnExactSameDecayRow.holds Try.pinned (OpenSpec.ofChange fnExactSameDecaySpec)

/-- ITS FALSE NEIGHBOUR: 'it returns false'. Refute it at one input. -/
def fnExactSameDecayWrong : ChangeSpec := { name := "fnExactSameDecay", fn := fun _ => fun
  | [d1, d2] => { results := [.lit (.bool false)], args := [d1, d2] }
  | _ => none }
def FnExactSameDecayWrongFalsely : Prop := fnExactSameDecayRow.holds Try.pinned (OpenSpec.ofChange fnExactSameDecayWrong)

/-- 'laws.FnExactDecayAt': WHATEVER THE INPUT: true; the input reads as it did. -/
def fnExactDecayAtSpec : ChangeSpec := { name := "fnExactDecayAt", fn := fun _ => fun
  | [d1, d2] => { results := [.lit (.bool true)], args := [d1, d2] }
  | _ => none }
def fnExactDecayAtRow : OpenClaim := { program := "ytmlnnnagbkknhab", sum := "4bd47de4322ed6723c54b8e9b3daa25870c911d10609a5dac02739a9fab3965b", func := "loop.example/g01347/laws.FnExactDecayAt", spec := "fnExactDecayAt", inPlace := ["math.Float64frombits", "math.Float64bits"], apart := false }
def FnExactDecayAtSaid : Prop := fnExactDecayAtRow.holds Try.pinned (OpenSpec.ofChange fnExactDecayAtSpec)

/-- ITS FALSE NEIGHBOUR: 'it returns false'. Refute it at one input. -/
def fnExactDecayAtWrong : ChangeSpec := { name := "fnExactDecayAt", fn := fun _ => fun
  | [d1, d2] => { results := [.lit (.bool false)], args := [d1, d2] }
  | _ => none }
def FnExactDecayAtWrongFalsely : Prop := fnExactDecayAtRow.holds Try.pinned (OpenSpec.ofChange fnExactDecayAtWrong)

/-- 'laws.FnExactPutDecay': WHATEVER THE INPUT: true; the input reads as it did. -/
def fnExactPutDecaySpec : ChangeSpec := { name := "fnExactPutDecay", fn := fun _ => fun
  | [d1, d2, d3] => { results := [.lit (.bool true)], args := [d1, d2, d3] }
  | _ => none }
def fnExactPutDecayRow : OpenClaim := { program := "ytmlnnnagbkknhab", sum := "4bd47de4322ed6723c54b8e9b3daa25870c911d10609a5dac02739a9fab3965b", func := "loop.example/g01347/laws.FnExactPutDecay", spec := "fnExactPutDecay", inPlace := ["math.Float64frombits", "math.Float64bits"], apart := false }
def FnExactPutDecaySaid : Prop := fnExactPutDecayRow.holds Try.pinned (OpenSpec.ofChange fnExactPutDecaySpec)

/-- ITS FALSE NEIGHBOUR: 'it returns false'. Refute it at one input. -/
def fnExactPutDecayWrong : ChangeSpec := { name := "fnExactPutDecay", fn := fun _ => fun
  | [d1, d2, d3] => { results := [.lit (.bool false)], args := [d1, d2, d3] }
  | _ => none }
def FnExactPutDecayWrongFalsely : Prop := fnExactPutDecayRow.holds Try.pinned (OpenSpec.ofChange fnExactPutDecayWrong)

/-- 'laws.FnExactJoinDecays': WHATEVER THE INPUT: true; the input reads as it did. -/
def fnExactJoinDecaysSpec : ChangeSpec := { name := "fnExactJoinDecays", fn := fun _ => fun
  | [d1, d2] => { results := [.lit (.bool true)], args := [d1, d2] }
  | _ => none }
def fnExactJoinDecaysRow : OpenClaim := { program := "ytmlnnnagbkknhab", sum := "4bd47de4322ed6723c54b8e9b3daa25870c911d10609a5dac02739a9fab3965b", func := "loop.example/g01347/laws.FnExactJoinDecays", spec := "fnExactJoinDecays", inPlace := ["math.Float64frombits", "math.Float64bits"], unfollowed := true, recurses := true, apart := false }
def FnExactJoinDecaysSaid : Prop := fnExactJoinDecaysRow.holds Try.pinned (OpenSpec.ofChange fnExactJoinDecaysSpec)

/-- ITS FALSE NEIGHBOUR: 'it returns false'. Refute it at one input. -/
def fnExactJoinDecaysWrong : ChangeSpec := { name := "fnExactJoinDecays", fn := fun _ => fun
  | [d1, d2] => { results := [.lit (.bool false)], args := [d1, d2] }
  | _ => none }
def FnExactJoinDecaysWrongFalsely : Prop := fnExactJoinDecaysRow.holds Try.pinned (OpenSpec.ofChange fnExactJoinDecaysWrong)

/-- 'laws.FnExactSmoothStream': WHATEVER THE INPUT: true; the input reads as it did. -/
def fnExactSmoothStreamSpec : ChangeSpec := { name := "fnExactSmoothStream", fn := fun _ => fun
  | [d1, d2] => { results := [.lit (.bool true)], args := [d1, d2] }
  | _ => none }
def fnExactSmoothStreamRow : OpenClaim := { program := "ytmlnnnagbkknhab", sum := "4bd47de4322ed6723c54b8e9b3daa25870c911d10609a5dac02739a9fab3965b", func := "loop.example/g01347/laws.FnExactSmoothStream", spec := "fnExactSmoothStream", inPlace := ["math.Float64bits", "math.Float64frombits"], apart := false }
def FnExactSmoothStreamSaid : Prop := fnExactSmoothStreamRow.holds Try.pinned (OpenSpec.ofChange fnExactSmoothStreamSpec)

/-- ITS FALSE NEIGHBOUR: 'it returns false'. Refute it at one input. -/
def fnExactSmoothStreamWrong : ChangeSpec := { name := "fnExactSmoothStream", fn := fun _ => fun
  | [d1, d2] => { results := [.lit (.bool false)], args := [d1, d2] }
  | _ => none }
def FnExactSmoothStreamWrongFalsely : Prop := fnExactSmoothStreamRow.holds Try.pinned (OpenSpec.ofChange fnExactSmoothStreamWrong)

/-- 'laws.FnExactMeansOfWindow': WHATEVER THE INPUT: true; the input reads as it did. -/
def fnExactMeansOfWindowSpec : ChangeSpec := { name := "fnExactMeansOfWindow", fn := fun _ => fun
  | [d1, d2] => { results := [.lit (.bool true)], args := [d1, d2] }
  | _ => none }
def fnExactMeansOfWindowRow : OpenClaim := { program := "ytmlnnnagbkknhab", sum := "4bd47de4322ed6723c54b8e9b3daa25870c911d10609a5dac02739a9fab3965b", func := "loop.example/g01347/laws.FnExactMeansOfWindow", spec := "fnExactMeansOfWindow", inPlace := ["math.Float64bits", "math.Float64frombits"], unfollowed := true, recurses := true, apart := false }
def FnExactMeansOfWindowSaid : Prop := fnExactMeansOfWindowRow.holds Try.pinned (OpenSpec.ofChange fnExactMeansOfWindowSpec)

/-- ITS FALSE NEIGHBOUR: 'it returns false'. Refute it at one input. -/
def fnExactMeansOfWindowWrong : ChangeSpec := { name := "fnExactMeansOfWindow", fn := fun _ => fun
  | [d1, d2] => { results := [.lit (.bool false)], args := [d1, d2] }
  | _ => none }
def FnExactMeansOfWindowWrongFalsely : Prop := fnExactMeansOfWindowRow.holds Try.pinned (OpenSpec.ofChange fnExactMeansOfWindowWrong)

/-- 'laws.FnExactLeastOfWindow': WHATEVER THE INPUT: true; the input reads as it did. -/
def fnExactLeastOfWindowSpec : ChangeSpec := { name := "fnExactLeastOfWindow", fn := fun _ => fun
  | [d1, d2] => { results := [.lit (.bool true)], args := [d1, d2] }
  | _ => none }
def fnExactLeastOfWindowRow : OpenClaim := { program := "ytmlnnnagbkknhab", sum := "4bd47de4322ed6723c54b8e9b3daa25870c911d10609a5dac02739a9fab3965b", func := "loop.example/g01347/laws.FnExactLeastOfWindow", spec := "fnExactLeastOfWindow", unfollowed := true, recurses := true, apart := false }
def FnExactLeastOfWindowSaid : Prop := fnExactLeastOfWindowRow.holds Try.pinned (OpenSpec.ofChange fnExactLeastOfWindowSpec)

/-- ITS FALSE NEIGHBOUR: 'it returns false'. Refute it at one input. -/
def fnExactLeastOfWindowWrong : ChangeSpec := { name := "fnExactLeastOfWindow", fn := fun _ => fun
  | [d1, d2] => { results := [.lit (.bool false)], args := [d1, d2] }
  | _ => none }
def FnExactLeastOfWindowWrongFalsely : Prop := fnExactLeastOfWindowRow.holds Try.pinned (OpenSpec.ofChange fnExactLeastOfWindowWrong)

/-- 'laws.FnExactGreatestOfWindow': WHATEVER THE INPUT: true; the input reads as it did. -/
def fnExactGreatestOfWindowSpec : ChangeSpec := { name := "fnExactGreatestOfWindow", fn := fun _ => fun
  | [d1, d2] => { results := [.lit (.bool true)], args := [d1, d2] }
  | _ => none }
def fnExactGreatestOfWindowRow : OpenClaim := { program := "ytmlnnnagbkknhab", sum := "4bd47de4322ed6723c54b8e9b3daa25870c911d10609a5dac02739a9fab3965b", func := "loop.example/g01347/laws.FnExactGreatestOfWindow", spec := "fnExactGreatestOfWindow", unfollowed := true, recurses := true, apart := false }
def FnExactGreatestOfWindowSaid : Prop := fnExactGreatestOfWindowRow.holds Try.pinned (OpenSpec.ofChange fnExactGreatestOfWindowSpec)

/-- ITS FALSE NEIGHBOUR: 'it returns false'. Refute it at one input. -/
def fnExactGreatestOfWindowWrong : ChangeSpec := { name := "fnExactGreatestOfWindow", fn := fun _ => fun
  | [d1, d2] => { results := [.lit (.bool false)], args := [d1, d2] }
  | _ => none }
def FnExactGreatestOfWindowWrongFalsely : Prop := fnExactGreatestOfWindowRow.holds Try.pinned (OpenSpec.ofChange fnExactGreatestOfWindowWrong)

/-- 'laws.FnExactMiddleOfWindow': WHATEVER THE INPUT: true; the input reads as it did. -/
def fnExactMiddleOfWindowSpec : ChangeSpec := { name := "fnExactMiddleOfWindow", fn := fun _ => fun
  | [d1, d2] => { results := [.lit (.bool true)], args := [d1, d2] }
  | _ => none }
def fnExactMiddleOfWindowRow : OpenClaim := { program := "ytmlnnnagbkknhab", sum := "4bd47de4322ed6723c54b8e9b3daa25870c911d10609a5dac02739a9fab3965b", func := "loop.example/g01347/laws.FnExactMiddleOfWindow", spec := "fnExactMiddleOfWindow", unfollowed := true, recurses := true, apart := false }
def FnExactMiddleOfWindowSaid : Prop := fnExactMiddleOfWindowRow.holds Try.pinned (OpenSpec.ofChange fnExactMiddleOfWindowSpec)

/-- ITS FALSE NEIGHBOUR: 'it returns false'. Refute it at one input. -/
def fnExactMiddleOfWindowWrong : ChangeSpec := { name := "fnExactMiddleOfWindow", fn := fun _ => fun
  | [d1, d2] => { results := [.lit (.bool false)], args := [d1, d2] }
  | _ => none }
def FnExactMiddleOfWindowWrongFalsely : Prop := fnExactMiddleOfWindowRow.holds Try.pinned (OpenSpec.ofChange fnExactMiddleOfWindowWrong)

/-- 'laws.FnExactOftenInWindow': WHATEVER THE INPUT: true; the input reads as it did. -/
def fnExactOftenInWindowSpec : ChangeSpec := { name := "fnExactOftenInWindow", fn := fun _ => fun
  | [d1, d2] => { results := [.lit (.bool true)], args := [d1, d2] }
  | _ => none }
def fnExactOftenInWindowRow : OpenClaim := { program := "ytmlnnnagbkknhab", sum := "4bd47de4322ed6723c54b8e9b3daa25870c911d10609a5dac02739a9fab3965b", func := "loop.example/g01347/laws.FnExactOftenInWindow", spec := "fnExactOftenInWindow", unfollowed := true, recurses := true, apart := false }
def FnExactOftenInWindowSaid : Prop := fnExactOftenInWindowRow.holds Try.pinned (OpenSpec.ofChange fnExactOftenInWindowSpec)

/-- ITS FALSE NEIGHBOUR: 'it returns false'. Refute it at one input. -/
def fnExactOftenInWindowWrong : ChangeSpec := { name := "fnExactOftenInWindow", fn := fun _ => fun
  | [d1, d2] => { results := [.lit (.bool false)], args := [d1, d2] }
  | _ => none }
def FnExactOftenInWindowWrongFalsely : Prop := fnExactOftenInWindowRow.holds Try.pinned (OpenSpec.ofChange fnExactOftenInWindowWrong)

/-- 'laws.FnExactClustersBelow': WHATEVER THE INPUT: true; the input reads as it did. -/
def fnExactClustersBelowSpec : ChangeSpec := { name := "fnExactClustersBelow", fn := fun _ => fun
  | [d1, d2] => { results := [.lit (.bool true)], args := [d1, d2] }
  | _ => none }
def fnExactClustersBelowRow : OpenClaim := { program := "ytmlnnnagbkknhab", sum := "4bd47de4322ed6723c54b8e9b3daa25870c911d10609a5dac02739a9fab3965b", func := "loop.example/g01347/laws.FnExactClustersBelow", spec := "fnExactClustersBelow", inPlace := ["math.Float64bits", "math.Float64frombits"], unfollowed := true, recurses := true, apart := false }
def FnExactClustersBelowSaid : Prop := fnExactClustersBelowRow.holds Try.pinned (OpenSpec.ofChange fnExactClustersBelowSpec)

/-- ITS FALSE NEIGHBOUR: 'it returns false'. Refute it at one input. -/
def fnExactClustersBelowWrong : ChangeSpec := { name := "fnExactClustersBelow", fn := fun _ => fun
  | [d1, d2] => { results := [.lit (.bool false)], args := [d1, d2] }
  | _ => none }
def FnExactClustersBelowWrongFalsely : Prop := fnExactClustersBelowRow.holds Try.pinned (OpenSpec.ofChange fnExactClustersBelowWrong)

/- THE SECOND FORM. 'bulk': how many values and letters a reading holds, each counted each time it is reached (what is shared counts as often as it is met; a slice's spare places count too). A statement '..UptoSaid' is the law's where the arguments, and the package variables that the reading takes, are together of bulk at most 1048576: NARROWER than '..Said'. Prove '..Said' where nothing that the law and all that it calls make is longer than what came in: it says more and counts as full. Else prove '..UptoSaid'. A law counts once. -/
mutual
def uptoBulk {H : Type} : DataW H → Nat
  | .lit (.string bytes) => bytes.length + 1
  | .lit _ => 1
  | .nil => 1
  | .ptr d => uptoBulk d + 1
  | .slice elems spare => uptoBulkAll elems + uptoBulkAll spare + 1
  | .agg parts => uptoBulkAll parts + 1
  | .iface _ d => uptoBulk d + 1
  | .map entries => uptoBulkEntries entries + 1
  | .held _ => 1
def uptoBulkAll {H : Type} : List (DataW H) → Nat
  | [] => 0
  | d :: r => uptoBulk d + uptoBulkAll r
def uptoBulkEntries {H : Type} : List (Lit × DataW H) → Nat
  | [] => 0
  | x :: r => uptoBulkEntry x + uptoBulkEntries r
def uptoBulkEntry {H : Type} : Lit × DataW H → Nat
  | (.string bytes, d) => bytes.length + uptoBulk d + 1
  | (_, d) => uptoBulk d + 1
 end
def uptoSmall : (H : Type) → List (DataW H) → Bool := fun _ ds => decide (uptoBulkAll ds ≤ 1048576)
def OpenSpec.upto (s : _root_.Go.ChangeSpec) : _root_.Go.OpenSpec := { _root_.Go.OpenSpec.ofChange s with cond := some uptoSmall }

/-- 'laws.FnExactValidDecay', WHERE WHAT IT READS IS OF BULK AT MOST 1048576: true; the input reads as it did. -/
def fnExactValidDecayUptoRow : OpenClaim := { program := "ytmlnnnagbkknhab", sum := "4bd47de4322ed6723c54b8e9b3daa25870c911d10609a5dac02739a9fab3965b", func := "loop.example/g01347/laws.FnExactValidDecay", spec := "fnExactValidDecay", inPlace := ["math.Float64bits", "math.Float64frombits"], apart := false, narrowed := true }
def FnExactValidDecayUptoSaid : Prop := fnExactValidDecayUptoRow.holds Try.pinned (OpenSpec.upto fnExactValidDecaySpec)

/-- 'laws.FnExactSameDecay', WHERE WHAT IT READS IS OF BULK AT MOST 1048576: true; the input reads as it did. -/
def fnExactSameDecayUptoRow : OpenClaim := { program := "ytmlnnnagbkknhab", sum := "4bd47de4322ed6723c54b8e9b3daa25870c911d10609a5dac02739a9fab3965b", func := "loop.example/g01347/laws.FnExactSameDecay", spec := "fnExactSameDecay", inPlace := ["math.Float32bits"], apart := false, narrowed := true }
def FnExactSameDecayUptoSaid : Prop := fnExactSameDecayUptoRow.holds Try.pinned (OpenSpec.upto fnExactSameDecaySpec)

/-- 'laws.FnExactDecayAt', WHERE WHAT IT READS IS OF BULK AT MOST 1048576: true; the input reads as it did. -/
def fnExactDecayAtUptoRow : OpenClaim := { program := "ytmlnnnagbkknhab", sum := "4bd47de4322ed6723c54b8e9b3daa25870c911d10609a5dac02739a9fab3965b", func := "loop.example/g01347/laws.FnExactDecayAt", spec := "fnExactDecayAt", inPlace := ["math.Float64frombits", "math.Float64bits"], apart := false, narrowed := true }
def FnExactDecayAtUptoSaid : Prop := fnExactDecayAtUptoRow.holds Try.pinned (OpenSpec.upto fnExactDecayAtSpec)

/-- 'laws.FnExactPutDecay', WHERE WHAT IT READS IS OF BULK AT MOST 1048576: true; the input reads as it did. -/
def fnExactPutDecayUptoRow : OpenClaim := { program := "ytmlnnnagbkknhab", sum := "4bd47de4322ed6723c54b8e9b3daa25870c911d10609a5dac02739a9fab3965b", func := "loop.example/g01347/laws.FnExactPutDecay", spec := "fnExactPutDecay", inPlace := ["math.Float64frombits", "math.Float64bits"], apart := false, narrowed := true }
def FnExactPutDecayUptoSaid : Prop := fnExactPutDecayUptoRow.holds Try.pinned (OpenSpec.upto fnExactPutDecaySpec)

/-- 'laws.FnExactJoinDecays', WHERE WHAT IT READS IS OF BULK AT MOST 1048576: true; the input reads as it did. -/
def fnExactJoinDecaysUptoRow : OpenClaim := { program := "ytmlnnnagbkknhab", sum := "4bd47de4322ed6723c54b8e9b3daa25870c911d10609a5dac02739a9fab3965b", func := "loop.example/g01347/laws.FnExactJoinDecays", spec := "fnExactJoinDecays", inPlace := ["math.Float64frombits", "math.Float64bits"], unfollowed := true, recurses := true, apart := false, narrowed := true }
def FnExactJoinDecaysUptoSaid : Prop := fnExactJoinDecaysUptoRow.holds Try.pinned (OpenSpec.upto fnExactJoinDecaysSpec)

/-- 'laws.FnExactSmoothStream', WHERE WHAT IT READS IS OF BULK AT MOST 1048576: true; the input reads as it did. -/
def fnExactSmoothStreamUptoRow : OpenClaim := { program := "ytmlnnnagbkknhab", sum := "4bd47de4322ed6723c54b8e9b3daa25870c911d10609a5dac02739a9fab3965b", func := "loop.example/g01347/laws.FnExactSmoothStream", spec := "fnExactSmoothStream", inPlace := ["math.Float64bits", "math.Float64frombits"], apart := false, narrowed := true }
def FnExactSmoothStreamUptoSaid : Prop := fnExactSmoothStreamUptoRow.holds Try.pinned (OpenSpec.upto fnExactSmoothStreamSpec)

/-- 'laws.FnExactMeansOfWindow', WHERE WHAT IT READS IS OF BULK AT MOST 1048576: true; the input reads as it did. -/
def fnExactMeansOfWindowUptoRow : OpenClaim := { program := "ytmlnnnagbkknhab", sum := "4bd47de4322ed6723c54b8e9b3daa25870c911d10609a5dac02739a9fab3965b", func := "loop.example/g01347/laws.FnExactMeansOfWindow", spec := "fnExactMeansOfWindow", inPlace := ["math.Float64bits", "math.Float64frombits"], unfollowed := true, recurses := true, apart := false, narrowed := true }
def FnExactMeansOfWindowUptoSaid : Prop := fnExactMeansOfWindowUptoRow.holds Try.pinned (OpenSpec.upto fnExactMeansOfWindowSpec)

/-- 'laws.FnExactLeastOfWindow', WHERE WHAT IT READS IS OF BULK AT MOST 1048576: true; the input reads as it did. -/
def fnExactLeastOfWindowUptoRow : OpenClaim := { program := "ytmlnnnagbkknhab", sum := "4bd47de4322ed6723c54b8e9b3daa25870c911d10609a5dac02739a9fab3965b", func := "loop.example/g01347/laws.FnExactLeastOfWindow", spec := "fnExactLeastOfWindow", unfollowed := true, recurses := true, apart := false, narrowed := true }
def FnExactLeastOfWindowUptoSaid : Prop := fnExactLeastOfWindowUptoRow.holds Try.pinned (OpenSpec.upto fnExactLeastOfWindowSpec)

/-- 'laws.FnExactGreatestOfWindow', WHERE WHAT IT READS IS OF BULK AT MOST 1048576: true; the input reads as it did. -/
def fnExactGreatestOfWindowUptoRow : OpenClaim := { program := "ytmlnnnagbkknhab", sum := "4bd47de4322ed6723c54b8e9b3daa25870c911d10609a5dac02739a9fab3965b", func := "loop.example/g01347/laws.FnExactGreatestOfWindow", spec := "fnExactGreatestOfWindow", unfollowed := true, recurses := true, apart := false, narrowed := true }
def FnExactGreatestOfWindowUptoSaid : Prop := fnExactGreatestOfWindowUptoRow.holds Try.pinned (OpenSpec.upto fnExactGreatestOfWindowSpec)

/-- 'laws.FnExactMiddleOfWindow', WHERE WHAT IT READS IS OF BULK AT MOST 1048576: true; the input reads as it did. -/
def fnExactMiddleOfWindowUptoRow : OpenClaim := { program := "ytmlnnnagbkknhab", sum := "4bd47de4322ed6723c54b8e9b3daa25870c911d10609a5dac02739a9fab3965b", func := "loop.example/g01347/laws.FnExactMiddleOfWindow", spec := "fnExactMiddleOfWindow", unfollowed := true, recurses := true, apart := false, narrowed := true }
def FnExactMiddleOfWindowUptoSaid : Prop := fnExactMiddleOfWindowUptoRow.holds Try.pinned (OpenSpec.upto fnExactMiddleOfWindowSpec)

/-- 'laws.FnExactOftenInWindow', WHERE WHAT IT READS IS OF BULK AT MOST 1048576: true; the input reads as it did. -/
def fnExactOftenInWindowUptoRow : OpenClaim := { program := "ytmlnnnagbkknhab", sum := "4bd47de4322ed6723c54b8e9b3daa25870c911d10609a5dac02739a9fab3965b", func := "loop.example/g01347/laws.FnExactOftenInWindow", spec := "fnExactOftenInWindow", unfollowed := true, recurses := true, apart := false, narrowed := true }
def FnExactOftenInWindowUptoSaid : Prop := fnExactOftenInWindowUptoRow.holds Try.pinned (OpenSpec.upto fnExactOftenInWindowSpec)

/-- 'laws.FnExactClustersBelow', WHERE WHAT IT READS IS OF BULK AT MOST 1048576: true; the input reads as it did. -/
def fnExactClustersBelowUptoRow : OpenClaim := { program := "ytmlnnnagbkknhab", sum := "4bd47de4322ed6723c54b8e9b3daa25870c911d10609a5dac02739a9fab3965b", func := "loop.example/g01347/laws.FnExactClustersBelow", spec := "fnExactClustersBelow", inPlace := ["math.Float64bits", "math.Float64frombits"], unfollowed := true, recurses := true, apart := false, narrowed := true }
def FnExactClustersBelowUptoSaid : Prop := fnExactClustersBelowUptoRow.holds Try.pinned (OpenSpec.upto fnExactClustersBelowSpec)

end Rows
end Go.Proofs.Ytmlnnnagbkknhab
