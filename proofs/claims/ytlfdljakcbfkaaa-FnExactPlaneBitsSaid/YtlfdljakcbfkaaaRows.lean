/-
  No cell of these rows narrows 'for every input' (looked for: loops, veiled, ifaces, maps, wideKeys, modest, calm, conditions, laid).
  DERIVED. THE GIVEN ROWS OF THIS SEAT. 12 by the template 'for every input the law returns true; each argument reads behind the call as it read before'; 0 by the template 'total and deterministic' (their statements: YtlfdljakcbfkaaaTotals.lean).
  GIVEN WITH THE SEED: the statements are not yours to turn. If you find one false, say at which input.
  Laid BY PROGRAM, IN A SANDBOX (cutbox-rows.mjs): the forced cells as the released guide's own fill.sh prints them over the translation f4c7fe6736619188… (all of the seat's roots in one cut). By AI agents, Wed Nov 11 2026. No macro, syntax, notation, axiom, sorry.
-/
import Derived.Test.YtlfdljakcbfkaaaChecked
import GoSem.Claim
import GoSem.ClaimJoined
import GoSem.ClaimMapViews
import Derived.JoinedTies
import Derived.KernelRfl
namespace Go.Proofs.Ytlfdljakcbfkaaa
/- THE CELL 'sum', in the pinned program and in every row, IS THE sha256 OF THE DUMP (.gsa) THAT YtlfdljakcbfkaaaProg.lean LOADS. Nothing in Lean hashes anything: it is a label: what it is worth is what the hold of that sum in a sandbox is worth. -/
noncomputable def Try.pinned : Pinned := { name := "ytlfdljakcbfkaaa", sum := "f4c7fe6736619188790dde390d49c06b17f6651d5fb2107e05efecc4d52901b9", checked := Try.checked }
namespace Rows
def none {H : Type} : Left H := { results := [], args := [] }

/-- 'laws.FnExactIsVector': WHATEVER THE INPUT: true; the input reads as it did. -/
def fnExactIsVectorSpec : ChangeSpec := { name := "fnExactIsVector", fn := fun _ => fun
  | [d] => { results := [.lit (.bool true)], args := [d] }
  | _ => none }
def fnExactIsVectorRow : OpenClaim := { program := "ytlfdljakcbfkaaa", sum := "f4c7fe6736619188790dde390d49c06b17f6651d5fb2107e05efecc4d52901b9", func := "loop.example/g01347/laws.FnExactIsVector", spec := "fnExactIsVector", inPlace := ["math.Float64bits", "math.Float64frombits"], apart := false }
def FnExactIsVectorSaid : Prop := fnExactIsVectorRow.holds Try.pinned (OpenSpec.ofChange fnExactIsVectorSpec)

/-- ITS FALSE NEIGHBOUR: 'it returns false'. Refute it at one input. -/
def fnExactIsVectorWrong : ChangeSpec := { name := "fnExactIsVector", fn := fun _ => fun
  | [d] => { results := [.lit (.bool false)], args := [d] }
  | _ => none }
def FnExactIsVectorWrongFalsely : Prop := fnExactIsVectorRow.holds Try.pinned (OpenSpec.ofChange fnExactIsVectorWrong)

/-- 'laws.FnExactNormOf': WHATEVER THE INPUT: true; the input reads as it did. -/
def fnExactNormOfSpec : ChangeSpec := { name := "fnExactNormOf", fn := fun _ => fun
  | [d] => { results := [.lit (.bool true)], args := [d] }
  | _ => none }
def fnExactNormOfRow : OpenClaim := { program := "ytlfdljakcbfkaaa", sum := "f4c7fe6736619188790dde390d49c06b17f6651d5fb2107e05efecc4d52901b9", func := "loop.example/g01347/laws.FnExactNormOf", spec := "fnExactNormOf", inPlace := ["math.sqrt", "math.Float64bits", "math.Float64frombits"], apart := false }
def FnExactNormOfSaid : Prop := fnExactNormOfRow.holds Try.pinned (OpenSpec.ofChange fnExactNormOfSpec)

/-- ITS FALSE NEIGHBOUR: 'it returns false'. Refute it at one input. -/
def fnExactNormOfWrong : ChangeSpec := { name := "fnExactNormOf", fn := fun _ => fun
  | [d] => { results := [.lit (.bool false)], args := [d] }
  | _ => none }
def FnExactNormOfWrongFalsely : Prop := fnExactNormOfRow.holds Try.pinned (OpenSpec.ofChange fnExactNormOfWrong)

/-- 'laws.FnExactDotOf': WHATEVER THE INPUT: true; the input reads as it did. -/
def fnExactDotOfSpec : ChangeSpec := { name := "fnExactDotOf", fn := fun _ => fun
  | [d1, d2] => { results := [.lit (.bool true)], args := [d1, d2] }
  | _ => none }
def fnExactDotOfRow : OpenClaim := { program := "ytlfdljakcbfkaaa", sum := "f4c7fe6736619188790dde390d49c06b17f6651d5fb2107e05efecc4d52901b9", func := "loop.example/g01347/laws.FnExactDotOf", spec := "fnExactDotOf", inPlace := ["math.Float64bits", "math.Float64frombits"], apart := false }
def FnExactDotOfSaid : Prop := fnExactDotOfRow.holds Try.pinned (OpenSpec.ofChange fnExactDotOfSpec)

/-- ITS FALSE NEIGHBOUR: 'it returns false'. Refute it at one input. -/
def fnExactDotOfWrong : ChangeSpec := { name := "fnExactDotOf", fn := fun _ => fun
  | [d1, d2] => { results := [.lit (.bool false)], args := [d1, d2] }
  | _ => none }
def FnExactDotOfWrongFalsely : Prop := fnExactDotOfRow.holds Try.pinned (OpenSpec.ofChange fnExactDotOfWrong)

/-- 'laws.FnExactSignRow': WHATEVER THE INPUT: true; the input reads as it did. -/
def fnExactSignRowSpec : ChangeSpec := { name := "fnExactSignRow", fn := fun _ => fun
  | [d1, d2] => { results := [.lit (.bool true)], args := [d1, d2] }
  | _ => none }
def fnExactSignRowRow : OpenClaim := { program := "ytlfdljakcbfkaaa", sum := "f4c7fe6736619188790dde390d49c06b17f6651d5fb2107e05efecc4d52901b9", func := "loop.example/g01347/laws.FnExactSignRow", spec := "fnExactSignRow", inPlace := ["math.Float64bits", "math.Float64frombits"], apart := false }
def FnExactSignRowSaid : Prop := fnExactSignRowRow.holds Try.pinned (OpenSpec.ofChange fnExactSignRowSpec)

/-- ITS FALSE NEIGHBOUR: 'it returns false'. Refute it at one input. -/
def fnExactSignRowWrong : ChangeSpec := { name := "fnExactSignRow", fn := fun _ => fun
  | [d1, d2] => { results := [.lit (.bool false)], args := [d1, d2] }
  | _ => none }
def FnExactSignRowWrongFalsely : Prop := fnExactSignRowRow.holds Try.pinned (OpenSpec.ofChange fnExactSignRowWrong)

/-- 'laws.FnExactSignSketch': WHATEVER THE INPUT: true; the input reads as it did. -/
def fnExactSignSketchSpec : ChangeSpec := { name := "fnExactSignSketch", fn := fun _ => fun
  | [d1, d2] => { results := [.lit (.bool true)], args := [d1, d2] }
  | _ => none }
def fnExactSignSketchRow : OpenClaim := { program := "ytlfdljakcbfkaaa", sum := "f4c7fe6736619188790dde390d49c06b17f6651d5fb2107e05efecc4d52901b9", func := "loop.example/g01347/laws.FnExactSignSketch", spec := "fnExactSignSketch", inPlace := ["math.Float64bits", "math.Float64frombits"], unfollowed := true, recurses := true, apart := false }
def FnExactSignSketchSaid : Prop := fnExactSignSketchRow.holds Try.pinned (OpenSpec.ofChange fnExactSignSketchSpec)

/-- ITS FALSE NEIGHBOUR: 'it returns false'. Refute it at one input. -/
def fnExactSignSketchWrong : ChangeSpec := { name := "fnExactSignSketch", fn := fun _ => fun
  | [d1, d2] => { results := [.lit (.bool false)], args := [d1, d2] }
  | _ => none }
def FnExactSignSketchWrongFalsely : Prop := fnExactSignSketchRow.holds Try.pinned (OpenSpec.ofChange fnExactSignSketchWrong)

/-- 'laws.FnExactShrinkVector': WHATEVER THE INPUT: true; the input reads as it did. -/
def fnExactShrinkVectorSpec : ChangeSpec := { name := "fnExactShrinkVector", fn := fun _ => fun
  | [d1, d2] => { results := [.lit (.bool true)], args := [d1, d2] }
  | _ => none }
def fnExactShrinkVectorRow : OpenClaim := { program := "ytlfdljakcbfkaaa", sum := "f4c7fe6736619188790dde390d49c06b17f6651d5fb2107e05efecc4d52901b9", func := "loop.example/g01347/laws.FnExactShrinkVector", spec := "fnExactShrinkVector", inPlace := ["math.sqrt", "math.Float64bits", "math.Float64frombits"], unfollowed := true, recurses := true, apart := false }
def FnExactShrinkVectorSaid : Prop := fnExactShrinkVectorRow.holds Try.pinned (OpenSpec.ofChange fnExactShrinkVectorSpec)

/-- ITS FALSE NEIGHBOUR: 'it returns false'. Refute it at one input. -/
def fnExactShrinkVectorWrong : ChangeSpec := { name := "fnExactShrinkVector", fn := fun _ => fun
  | [d1, d2] => { results := [.lit (.bool false)], args := [d1, d2] }
  | _ => none }
def FnExactShrinkVectorWrongFalsely : Prop := fnExactShrinkVectorRow.holds Try.pinned (OpenSpec.ofChange fnExactShrinkVectorWrong)

/-- 'laws.FnExactPlaneBits': WHATEVER THE INPUT: true; the input reads as it did. -/
def fnExactPlaneBitsSpec : ChangeSpec := { name := "fnExactPlaneBits", fn := fun _ => fun
  | [d1, d2] => { results := [.lit (.bool true)], args := [d1, d2] }
  | _ => none }
def fnExactPlaneBitsRow : OpenClaim := { program := "ytlfdljakcbfkaaa", sum := "f4c7fe6736619188790dde390d49c06b17f6651d5fb2107e05efecc4d52901b9", func := "loop.example/g01347/laws.FnExactPlaneBits", spec := "fnExactPlaneBits", inPlace := ["math.Float64bits", "math.Float64frombits"], unfollowed := true, recurses := true, apart := false }
def FnExactPlaneBitsSaid : Prop := fnExactPlaneBitsRow.holds Try.pinned (OpenSpec.ofChange fnExactPlaneBitsSpec)

/-- ITS FALSE NEIGHBOUR: 'it returns false'. Refute it at one input. -/
def fnExactPlaneBitsWrong : ChangeSpec := { name := "fnExactPlaneBits", fn := fun _ => fun
  | [d1, d2] => { results := [.lit (.bool false)], args := [d1, d2] }
  | _ => none }
def FnExactPlaneBitsWrongFalsely : Prop := fnExactPlaneBitsRow.holds Try.pinned (OpenSpec.ofChange fnExactPlaneBitsWrong)

/-- 'laws.FnExactAngleAbout': WHATEVER THE INPUT: true; the input reads as it did. -/
def fnExactAngleAboutSpec : ChangeSpec := { name := "fnExactAngleAbout", fn := fun _ => fun
  | [d1, d2] => { results := [.lit (.bool true)], args := [d1, d2] }
  | _ => none }
def fnExactAngleAboutRow : OpenClaim := { program := "ytlfdljakcbfkaaa", sum := "f4c7fe6736619188790dde390d49c06b17f6651d5fb2107e05efecc4d52901b9", func := "loop.example/g01347/laws.FnExactAngleAbout", spec := "fnExactAngleAbout", apart := false }
def FnExactAngleAboutSaid : Prop := fnExactAngleAboutRow.holds Try.pinned (OpenSpec.ofChange fnExactAngleAboutSpec)

/-- ITS FALSE NEIGHBOUR: 'it returns false'. Refute it at one input. -/
def fnExactAngleAboutWrong : ChangeSpec := { name := "fnExactAngleAbout", fn := fun _ => fun
  | [d1, d2] => { results := [.lit (.bool false)], args := [d1, d2] }
  | _ => none }
def FnExactAngleAboutWrongFalsely : Prop := fnExactAngleAboutRow.holds Try.pinned (OpenSpec.ofChange fnExactAngleAboutWrong)

/-- 'laws.FnExactBandPairs': WHATEVER THE INPUT: true; the input reads as it did. -/
def fnExactBandPairsSpec : ChangeSpec := { name := "fnExactBandPairs", fn := fun _ => fun
  | [d1, d2] => { results := [.lit (.bool true)], args := [d1, d2] }
  | _ => none }
def fnExactBandPairsRow : OpenClaim := { program := "ytlfdljakcbfkaaa", sum := "f4c7fe6736619188790dde390d49c06b17f6651d5fb2107e05efecc4d52901b9", func := "loop.example/g01347/laws.FnExactBandPairs", spec := "fnExactBandPairs", unfollowed := true, recurses := true, apart := false }
def FnExactBandPairsSaid : Prop := fnExactBandPairsRow.holds Try.pinned (OpenSpec.ofChange fnExactBandPairsSpec)

/-- ITS FALSE NEIGHBOUR: 'it returns false'. Refute it at one input. -/
def fnExactBandPairsWrong : ChangeSpec := { name := "fnExactBandPairs", fn := fun _ => fun
  | [d1, d2] => { results := [.lit (.bool false)], args := [d1, d2] }
  | _ => none }
def FnExactBandPairsWrongFalsely : Prop := fnExactBandPairsRow.holds Try.pinned (OpenSpec.ofChange fnExactBandPairsWrong)

/-- 'laws.FnExactNearPairs': WHATEVER THE INPUT: true; the input reads as it did. -/
def fnExactNearPairsSpec : ChangeSpec := { name := "fnExactNearPairs", fn := fun _ => fun
  | [d1, d2] => { results := [.lit (.bool true)], args := [d1, d2] }
  | _ => none }
def fnExactNearPairsRow : OpenClaim := { program := "ytlfdljakcbfkaaa", sum := "f4c7fe6736619188790dde390d49c06b17f6651d5fb2107e05efecc4d52901b9", func := "loop.example/g01347/laws.FnExactNearPairs", spec := "fnExactNearPairs", inPlace := ["math.sqrt", "math.Float64bits", "math.Float64frombits"], unfollowed := true, recurses := true, apart := false }
def FnExactNearPairsSaid : Prop := fnExactNearPairsRow.holds Try.pinned (OpenSpec.ofChange fnExactNearPairsSpec)

/-- ITS FALSE NEIGHBOUR: 'it returns false'. Refute it at one input. -/
def fnExactNearPairsWrong : ChangeSpec := { name := "fnExactNearPairs", fn := fun _ => fun
  | [d1, d2] => { results := [.lit (.bool false)], args := [d1, d2] }
  | _ => none }
def FnExactNearPairsWrongFalsely : Prop := fnExactNearPairsRow.holds Try.pinned (OpenSpec.ofChange fnExactNearPairsWrong)

/-- 'laws.FnExactLineOf': WHATEVER THE INPUT: true; the input reads as it did. -/
def fnExactLineOfSpec : ChangeSpec := { name := "fnExactLineOf", fn := fun _ => fun
  | [d1, d2] => { results := [.lit (.bool true)], args := [d1, d2] }
  | _ => none }
def fnExactLineOfRow : OpenClaim := { program := "ytlfdljakcbfkaaa", sum := "f4c7fe6736619188790dde390d49c06b17f6651d5fb2107e05efecc4d52901b9", func := "loop.example/g01347/laws.FnExactLineOf", spec := "fnExactLineOf", inPlace := ["math.Float32frombits", "math.Float64frombits", "math.Float64bits"], apart := false }
def FnExactLineOfSaid : Prop := fnExactLineOfRow.holds Try.pinned (OpenSpec.ofChange fnExactLineOfSpec)

/-- ITS FALSE NEIGHBOUR: 'it returns false'. Refute it at one input. -/
def fnExactLineOfWrong : ChangeSpec := { name := "fnExactLineOf", fn := fun _ => fun
  | [d1, d2] => { results := [.lit (.bool false)], args := [d1, d2] }
  | _ => none }
def FnExactLineOfWrongFalsely : Prop := fnExactLineOfRow.holds Try.pinned (OpenSpec.ofChange fnExactLineOfWrong)

/-- 'laws.FnExactLinesOf': WHATEVER THE INPUT: true; the input reads as it did. -/
def fnExactLinesOfSpec : ChangeSpec := { name := "fnExactLinesOf", fn := fun _ => fun
  | [d] => { results := [.lit (.bool true)], args := [d] }
  | _ => none }
def fnExactLinesOfRow : OpenClaim := { program := "ytlfdljakcbfkaaa", sum := "f4c7fe6736619188790dde390d49c06b17f6651d5fb2107e05efecc4d52901b9", func := "loop.example/g01347/laws.FnExactLinesOf", spec := "fnExactLinesOf", inPlace := ["math.Float32frombits", "math.Float64frombits", "math.Float64bits"], unfollowed := true, recurses := true, apart := false }
def FnExactLinesOfSaid : Prop := fnExactLinesOfRow.holds Try.pinned (OpenSpec.ofChange fnExactLinesOfSpec)

/-- ITS FALSE NEIGHBOUR: 'it returns false'. Refute it at one input. -/
def fnExactLinesOfWrong : ChangeSpec := { name := "fnExactLinesOf", fn := fun _ => fun
  | [d] => { results := [.lit (.bool false)], args := [d] }
  | _ => none }
def FnExactLinesOfWrongFalsely : Prop := fnExactLinesOfRow.holds Try.pinned (OpenSpec.ofChange fnExactLinesOfWrong)

/- THE SECOND FORM. 'bulk': how many values and letters a reading holds, each counted each time it is reached (what is shared counts as often as it is met; a slice's spare places count too). A statement '..UptoSaid' is the law's where the arguments, and the package variables that the reading takes, are together of bulk at most 1048576: NARROWER than '..Said'. Prove '..Said' where nothing that the law and all that it calls make is longer than what came in: it says more and counts as full. Else prove '..UptoSaid'. A law counts once. -/
mutual
def uptoBulk {H : Type} : DataW H → Nat
  | .lit (.string bytes) => bytes.length + 1
  | .lit _ => 1
  | .nil => 1
  | .ptr d => uptoBulk d + 1
  | .slice elems spare => uptoBulkAll elems + uptoBulkAll spare + 1
  | .agg parts => uptoBulkAll parts + 1
  | .iface _ d => uptoBulk d + 1
  | .map entries => uptoBulkEntries entries + 1
  | .held _ => 1
def uptoBulkAll {H : Type} : List (DataW H) → Nat
  | [] => 0
  | d :: r => uptoBulk d + uptoBulkAll r
def uptoBulkEntries {H : Type} : List (Lit × DataW H) → Nat
  | [] => 0
  | x :: r => uptoBulkEntry x + uptoBulkEntries r
def uptoBulkEntry {H : Type} : Lit × DataW H → Nat
  | (.string bytes, d) => bytes.length + uptoBulk d + 1
  | (_, d) => uptoBulk d + 1
 end
def uptoSmall : (H : Type) → List (DataW H) → Bool := fun _ ds => decide (uptoBulkAll ds ≤ 1048576)
def OpenSpec.upto (s : _root_.Go.ChangeSpec) : _root_.Go.OpenSpec := { _root_.Go.OpenSpec.ofChange s with cond := some uptoSmall }

/-- 'laws.FnExactIsVector', WHERE WHAT IT READS IS OF BULK AT MOST 1048576: true; the input reads as it did. -/
def fnExactIsVectorUptoRow : OpenClaim := { program := "ytlfdljakcbfkaaa", sum := "f4c7fe6736619188790dde390d49c06b17f6651d5fb2107e05efecc4d52901b9", func := "loop.example/g01347/laws.FnExactIsVector", spec := "fnExactIsVector", inPlace := ["math.Float64bits", "math.Float64frombits"], apart := false, narrowed := true }
def FnExactIsVectorUptoSaid : Prop := fnExactIsVectorUptoRow.holds Try.pinned (OpenSpec.upto fnExactIsVectorSpec)

/-- 'laws.FnExactNormOf', WHERE WHAT IT READS IS OF BULK AT MOST 1048576: true; the input reads as it did. -/
def fnExactNormOfUptoRow : OpenClaim := { program := "ytlfdljakcbfkaaa", sum := "f4c7fe6736619188790dde390d49c06b17f6651d5fb2107e05efecc4d52901b9", func := "loop.example/g01347/laws.FnExactNormOf", spec := "fnExactNormOf", inPlace := ["math.sqrt", "math.Float64bits", "math.Float64frombits"], apart := false, narrowed := true }
def FnExactNormOfUptoSaid : Prop := fnExactNormOfUptoRow.holds Try.pinned (OpenSpec.upto fnExactNormOfSpec)

/-- 'laws.FnExactDotOf', WHERE WHAT IT READS IS OF BULK AT MOST 1048576: true; the input reads as it did. -/
def fnExactDotOfUptoRow : OpenClaim := { program := "ytlfdljakcbfkaaa", sum := "f4c7fe6736619188790dde390d49c06b17f6651d5fb2107e05efecc4d52901b9", func := "loop.example/g01347/laws.FnExactDotOf", spec := "fnExactDotOf", inPlace := ["math.Float64bits", "math.Float64frombits"], apart := false, narrowed := true }
def FnExactDotOfUptoSaid : Prop := fnExactDotOfUptoRow.holds Try.pinned (OpenSpec.upto fnExactDotOfSpec)

/-- 'laws.FnExactSignRow', WHERE WHAT IT READS IS OF BULK AT MOST 1048576: true; the input reads as it did. -/
def fnExactSignRowUptoRow : OpenClaim := { program := "ytlfdljakcbfkaaa", sum := "f4c7fe6736619188790dde390d49c06b17f6651d5fb2107e05efecc4d52901b9", func := "loop.example/g01347/laws.FnExactSignRow", spec := "fnExactSignRow", inPlace := ["math.Float64bits", "math.Float64frombits"], apart := false, narrowed := true }
def FnExactSignRowUptoSaid : Prop := fnExactSignRowUptoRow.holds Try.pinned (OpenSpec.upto fnExactSignRowSpec)

/-- 'laws.FnExactSignSketch', WHERE WHAT IT READS IS OF BULK AT MOST 1048576: true; the input reads as it did. -/
def fnExactSignSketchUptoRow : OpenClaim := { program := "ytlfdljakcbfkaaa", sum := "f4c7fe6736619188790dde390d49c06b17f6651d5fb2107e05efecc4d52901b9", func := "loop.example/g01347/laws.FnExactSignSketch", spec := "fnExactSignSketch", inPlace := ["math.Float64bits", "math.Float64frombits"], unfollowed := true, recurses := true, apart := false, narrowed := true }
def FnExactSignSketchUptoSaid : Prop := fnExactSignSketchUptoRow.holds Try.pinned (OpenSpec.upto fnExactSignSketchSpec)

/-- 'laws.FnExactShrinkVector', WHERE WHAT IT READS IS OF BULK AT MOST 1048576: true; the input reads as it did. -/
def fnExactShrinkVectorUptoRow : OpenClaim := { program := "ytlfdljakcbfkaaa", sum := "f4c7fe6736619188790dde390d49c06b17f6651d5fb2107e05efecc4d52901b9", func := "loop.example/g01347/laws.FnExactShrinkVector", spec := "fnExactShrinkVector", inPlace := ["math.sqrt", "math.Float64bits", "math.Float64frombits"], unfollowed := true, recurses := true, apart := false, narrowed := true }
def FnExactShrinkVectorUptoSaid : Prop := fnExactShrinkVectorUptoRow.holds Try.pinned (OpenSpec.upto fnExactShrinkVectorSpec)

/-- 'laws.FnExactPlaneBits', WHERE WHAT IT READS IS OF BULK AT MOST 1048576: true; the input reads as it did. -/
def fnExactPlaneBitsUptoRow : OpenClaim := { program := "ytlfdljakcbfkaaa", sum := "f4c7fe6736619188790dde390d49c06b17f6651d5fb2107e05efecc4d52901b9", func := "loop.example/g01347/laws.FnExactPlaneBits", spec := "fnExactPlaneBits", inPlace := ["math.Float64bits", "math.Float64frombits"], unfollowed := true, recurses := true, apart := false, narrowed := true }
def FnExactPlaneBitsUptoSaid : Prop := fnExactPlaneBitsUptoRow.holds Try.pinned (OpenSpec.upto fnExactPlaneBitsSpec)

/-- 'laws.FnExactAngleAbout', WHERE WHAT IT READS IS OF BULK AT MOST 1048576: true; the input reads as it did. -/
def fnExactAngleAboutUptoRow : OpenClaim := { program := "ytlfdljakcbfkaaa", sum := "f4c7fe6736619188790dde390d49c06b17f6651d5fb2107e05efecc4d52901b9", func := "loop.example/g01347/laws.FnExactAngleAbout", spec := "fnExactAngleAbout", apart := false, narrowed := true }
def FnExactAngleAboutUptoSaid : Prop := fnExactAngleAboutUptoRow.holds Try.pinned (OpenSpec.upto fnExactAngleAboutSpec)

/-- 'laws.FnExactBandPairs', WHERE WHAT IT READS IS OF BULK AT MOST 1048576: true; the input reads as it did. -/
def fnExactBandPairsUptoRow : OpenClaim := { program := "ytlfdljakcbfkaaa", sum := "f4c7fe6736619188790dde390d49c06b17f6651d5fb2107e05efecc4d52901b9", func := "loop.example/g01347/laws.FnExactBandPairs", spec := "fnExactBandPairs", unfollowed := true, recurses := true, apart := false, narrowed := true }
def FnExactBandPairsUptoSaid : Prop := fnExactBandPairsUptoRow.holds Try.pinned (OpenSpec.upto fnExactBandPairsSpec)

/-- 'laws.FnExactNearPairs', WHERE WHAT IT READS IS OF BULK AT MOST 1048576: true; the input reads as it did. -/
def fnExactNearPairsUptoRow : OpenClaim := { program := "ytlfdljakcbfkaaa", sum := "f4c7fe6736619188790dde390d49c06b17f6651d5fb2107e05efecc4d52901b9", func := "loop.example/g01347/laws.FnExactNearPairs", spec := "fnExactNearPairs", inPlace := ["math.sqrt", "math.Float64bits", "math.Float64frombits"], unfollowed := true, recurses := true, apart := false, narrowed := true }
def FnExactNearPairsUptoSaid : Prop := fnExactNearPairsUptoRow.holds Try.pinned (OpenSpec.upto fnExactNearPairsSpec)

/-- 'laws.FnExactLineOf', WHERE WHAT IT READS IS OF BULK AT MOST 1048576: true; the input reads as it did. -/
def fnExactLineOfUptoRow : OpenClaim := { program := "ytlfdljakcbfkaaa", sum := "f4c7fe6736619188790dde390d49c06b17f6651d5fb2107e05efecc4d52901b9", func := "loop.example/g01347/laws.FnExactLineOf", spec := "fnExactLineOf", inPlace := ["math.Float32frombits", "math.Float64frombits", "math.Float64bits"], apart := false, narrowed := true }
def FnExactLineOfUptoSaid : Prop := fnExactLineOfUptoRow.holds Try.pinned (OpenSpec.upto fnExactLineOfSpec)

/-- 'laws.FnExactLinesOf', WHERE WHAT IT READS IS OF BULK AT MOST 1048576: true; the input reads as it did. -/
def fnExactLinesOfUptoRow : OpenClaim := { program := "ytlfdljakcbfkaaa", sum := "f4c7fe6736619188790dde390d49c06b17f6651d5fb2107e05efecc4d52901b9", func := "loop.example/g01347/laws.FnExactLinesOf", spec := "fnExactLinesOf", inPlace := ["math.Float32frombits", "math.Float64frombits", "math.Float64bits"], unfollowed := true, recurses := true, apart := false, narrowed := true }
def FnExactLinesOfUptoSaid : Prop := fnExactLinesOfUptoRow.holds Try.pinned (OpenSpec.upto fnExactLinesOfSpec)

end Rows
end Go.Proofs.Ytlfdljakcbfkaaa
