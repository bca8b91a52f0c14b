/-
  No cell of these rows narrows 'for every input' (looked for: loops, veiled, ifaces, maps, wideKeys, modest, calm, conditions, laid).
  DERIVED. THE GIVEN ROWS OF THIS SEAT. 12 by the template 'for every input the law returns true; each argument reads behind the call as it read before'; 0 by the template 'total and deterministic' (their statements: YtfbapbgiegploaaTotals.lean).
  GIVEN WITH THE SEED: the statements are not yours to turn. If you find one false, say at which input.
  Laid BY PROGRAM, IN A SANDBOX (cutbox-rows.mjs): the forced cells as the released guide's own fill.sh prints them over the translation 6b0087dd0e3654f6… (all of the seat's roots in one cut). By AI agents, Wed Nov 11 2026. No macro, syntax, notation, axiom, sorry.
-/
import Derived.Test.YtfbapbgiegploaaChecked
import GoSem.Claim
import GoSem.ClaimJoined
import GoSem.ClaimMapViews
import Derived.JoinedTies
import Derived.KernelRfl
namespace Go.Proofs.Ytfbapbgiegploaa
/- THE CELL 'sum', in the pinned program and in every row, IS THE sha256 OF THE DUMP (.gsa) THAT YtfbapbgiegploaaProg.lean LOADS. Nothing in Lean hashes anything: it is a label: what it is worth is what the hold of that sum in a sandbox is worth. -/
noncomputable def Try.pinned : Pinned := { name := "ytfbapbgiegploaa", sum := "6b0087dd0e3654f6f02ce220a2bc460404caf1fbf87d6c8366acc09f7f6d000d", checked := Try.checked }
namespace Rows
def none {H : Type} : Left H := { results := [], args := [] }

/-- 'laws.FnLasts': WHATEVER THE INPUT: true; the input reads as it did. -/
def fnLastsSpec : ChangeSpec := { name := "fnLasts", fn := fun _ => fun
  | [d1, d2] => { results := [.lit (.bool true)], args := [d1, d2] }
  | _ => none }
def fnLastsRow : OpenClaim := { program := "ytfbapbgiegploaa", sum := "6b0087dd0e3654f6f02ce220a2bc460404caf1fbf87d6c8366acc09f7f6d000d", func := "loop.example/g01347/laws.FnLasts", spec := "fnLasts", inPlace := ["math.Float64bits", "math.Float64frombits"], unfollowed := true, recurses := true, apart := false }
def FnLastsSaid : Prop := fnLastsRow.holds Try.pinned (OpenSpec.ofChange fnLastsSpec)

/-- ITS FALSE NEIGHBOUR: 'it returns false'. Refute it at one input. -/
def fnLastsWrong : ChangeSpec := { name := "fnLasts", fn := fun _ => fun
  | [d1, d2] => { results := [.lit (.bool false)], args := [d1, d2] }
  | _ => none }
def FnLastsWrongFalsely : Prop := fnLastsRow.holds Try.pinned (OpenSpec.ofChange fnLastsWrong)

/-- 'laws.FnSieves': WHATEVER THE INPUT: true; the input reads as it did. -/
def fnSievesSpec : ChangeSpec := { name := "fnSieves", fn := fun _ => fun
  | [d1, d2] => { results := [.lit (.bool true)], args := [d1, d2] }
  | _ => none }
def fnSievesRow : OpenClaim := { program := "ytfbapbgiegploaa", sum := "6b0087dd0e3654f6f02ce220a2bc460404caf1fbf87d6c8366acc09f7f6d000d", func := "loop.example/g01347/laws.FnSieves", spec := "fnSieves", inPlace := ["math.Float64frombits", "math.Float64bits"], unfollowed := true, recurses := true, apart := false }
def FnSievesSaid : Prop := fnSievesRow.holds Try.pinned (OpenSpec.ofChange fnSievesSpec)

/-- ITS FALSE NEIGHBOUR: 'it returns false'. Refute it at one input. -/
def fnSievesWrong : ChangeSpec := { name := "fnSieves", fn := fun _ => fun
  | [d1, d2] => { results := [.lit (.bool false)], args := [d1, d2] }
  | _ => none }
def FnSievesWrongFalsely : Prop := fnSievesRow.holds Try.pinned (OpenSpec.ofChange fnSievesWrong)

/-- 'laws.FnSigned': WHATEVER THE INPUT: true; the input reads as it did. -/
def fnSignedSpec : ChangeSpec := { name := "fnSigned", fn := fun _ => fun
  | [d1, d2] => { results := [.lit (.bool true)], args := [d1, d2] }
  | _ => none }
def fnSignedRow : OpenClaim := { program := "ytfbapbgiegploaa", sum := "6b0087dd0e3654f6f02ce220a2bc460404caf1fbf87d6c8366acc09f7f6d000d", func := "loop.example/g01347/laws.FnSigned", spec := "fnSigned", unfollowed := true, recurses := true, apart := false }
def FnSignedSaid : Prop := fnSignedRow.holds Try.pinned (OpenSpec.ofChange fnSignedSpec)

/-- ITS FALSE NEIGHBOUR: 'it returns false'. Refute it at one input. -/
def fnSignedWrong : ChangeSpec := { name := "fnSigned", fn := fun _ => fun
  | [d1, d2] => { results := [.lit (.bool false)], args := [d1, d2] }
  | _ => none }
def FnSignedWrongFalsely : Prop := fnSignedRow.holds Try.pinned (OpenSpec.ofChange fnSignedWrong)

/-- 'laws.FnDistinct': WHATEVER THE INPUT: true; the input reads as it did. -/
def fnDistinctSpec : ChangeSpec := { name := "fnDistinct", fn := fun _ => fun
  | [d1, d2] => { results := [.lit (.bool true)], args := [d1, d2] }
  | _ => none }
def fnDistinctRow : OpenClaim := { program := "ytfbapbgiegploaa", sum := "6b0087dd0e3654f6f02ce220a2bc460404caf1fbf87d6c8366acc09f7f6d000d", func := "loop.example/g01347/laws.FnDistinct", spec := "fnDistinct", inPlace := ["math.Float64frombits", "math.Float64bits"], recurses := true, apart := false }
def FnDistinctSaid : Prop := fnDistinctRow.holds Try.pinned (OpenSpec.ofChange fnDistinctSpec)

/-- ITS FALSE NEIGHBOUR: 'it returns false'. Refute it at one input. -/
def fnDistinctWrong : ChangeSpec := { name := "fnDistinct", fn := fun _ => fun
  | [d1, d2] => { results := [.lit (.bool false)], args := [d1, d2] }
  | _ => none }
def FnDistinctWrongFalsely : Prop := fnDistinctRow.holds Try.pinned (OpenSpec.ofChange fnDistinctWrong)

/-- 'laws.FnHalves': WHATEVER THE INPUT: true; the input reads as it did. -/
def fnHalvesSpec : ChangeSpec := { name := "fnHalves", fn := fun _ => fun
  | [d1, d2] => { results := [.lit (.bool true)], args := [d1, d2] }
  | _ => none }
def fnHalvesRow : OpenClaim := { program := "ytfbapbgiegploaa", sum := "6b0087dd0e3654f6f02ce220a2bc460404caf1fbf87d6c8366acc09f7f6d000d", func := "loop.example/g01347/laws.FnHalves", spec := "fnHalves", inPlace := ["math.Float64bits", "math.Float64frombits", "math.archCeil", "math.archFloor", "math.archTrunc"], unfollowed := true, recurses := true, apart := false }
def FnHalvesSaid : Prop := fnHalvesRow.holds Try.pinned (OpenSpec.ofChange fnHalvesSpec)

/-- ITS FALSE NEIGHBOUR: 'it returns false'. Refute it at one input. -/
def fnHalvesWrong : ChangeSpec := { name := "fnHalves", fn := fun _ => fun
  | [d1, d2] => { results := [.lit (.bool false)], args := [d1, d2] }
  | _ => none }
def FnHalvesWrongFalsely : Prop := fnHalvesRow.holds Try.pinned (OpenSpec.ofChange fnHalvesWrong)

/-- 'laws.FnExactCorrectedAt': WHATEVER THE INPUT: true; the input reads as it did. -/
def fnExactCorrectedAtSpec : ChangeSpec := { name := "fnExactCorrectedAt", fn := fun _ => fun
  | [d1, d2] => { results := [.lit (.bool true)], args := [d1, d2] }
  | _ => none }
def fnExactCorrectedAtRow : OpenClaim := { program := "ytfbapbgiegploaa", sum := "6b0087dd0e3654f6f02ce220a2bc460404caf1fbf87d6c8366acc09f7f6d000d", func := "loop.example/g01347/laws.FnExactCorrectedAt", spec := "fnExactCorrectedAt", unfollowed := true, recurses := true, apart := false }
def FnExactCorrectedAtSaid : Prop := fnExactCorrectedAtRow.holds Try.pinned (OpenSpec.ofChange fnExactCorrectedAtSpec)

/-- ITS FALSE NEIGHBOUR: 'it returns false'. Refute it at one input. -/
def fnExactCorrectedAtWrong : ChangeSpec := { name := "fnExactCorrectedAt", fn := fun _ => fun
  | [d1, d2] => { results := [.lit (.bool false)], args := [d1, d2] }
  | _ => none }
def FnExactCorrectedAtWrongFalsely : Prop := fnExactCorrectedAtRow.holds Try.pinned (OpenSpec.ofChange fnExactCorrectedAtWrong)

/-- 'laws.FnExactPutLevels': WHATEVER THE INPUT: true; the input reads as it did. -/
def fnExactPutLevelsSpec : ChangeSpec := { name := "fnExactPutLevels", fn := fun _ => fun
  | [d1, d2] => { results := [.lit (.bool true)], args := [d1, d2] }
  | _ => none }
def fnExactPutLevelsRow : OpenClaim := { program := "ytfbapbgiegploaa", sum := "6b0087dd0e3654f6f02ce220a2bc460404caf1fbf87d6c8366acc09f7f6d000d", func := "loop.example/g01347/laws.FnExactPutLevels", spec := "fnExactPutLevels", inPlace := ["math.Float64bits", "math.Float64frombits"], unfollowed := true, recurses := true, apart := false }
def FnExactPutLevelsSaid : Prop := fnExactPutLevelsRow.holds Try.pinned (OpenSpec.ofChange fnExactPutLevelsSpec)

/-- ITS FALSE NEIGHBOUR: 'it returns false'. Refute it at one input. -/
def fnExactPutLevelsWrong : ChangeSpec := { name := "fnExactPutLevels", fn := fun _ => fun
  | [d1, d2] => { results := [.lit (.bool false)], args := [d1, d2] }
  | _ => none }
def FnExactPutLevelsWrongFalsely : Prop := fnExactPutLevelsRow.holds Try.pinned (OpenSpec.ofChange fnExactPutLevelsWrong)

/-- 'laws.FnExactLevelsQuantile': WHATEVER THE INPUT: true; the input reads as it did. -/
def fnExactLevelsQuantileSpec : ChangeSpec := { name := "fnExactLevelsQuantile", fn := fun _ => fun
  | [d1, d2] => { results := [.lit (.bool true)], args := [d1, d2] }
  | _ => none }
def fnExactLevelsQuantileRow : OpenClaim := { program := "ytfbapbgiegploaa", sum := "6b0087dd0e3654f6f02ce220a2bc460404caf1fbf87d6c8366acc09f7f6d000d", func := "loop.example/g01347/laws.FnExactLevelsQuantile", spec := "fnExactLevelsQuantile", inPlace := ["math.archCeil", "math.archFloor", "math.Float64bits", "math.Float64frombits", "math.archTrunc"], unfollowed := true, recurses := true, apart := false }
def FnExactLevelsQuantileSaid : Prop := fnExactLevelsQuantileRow.holds Try.pinned (OpenSpec.ofChange fnExactLevelsQuantileSpec)

/-- ITS FALSE NEIGHBOUR: 'it returns false'. Refute it at one input. -/
def fnExactLevelsQuantileWrong : ChangeSpec := { name := "fnExactLevelsQuantile", fn := fun _ => fun
  | [d1, d2] => { results := [.lit (.bool false)], args := [d1, d2] }
  | _ => none }
def FnExactLevelsQuantileWrongFalsely : Prop := fnExactLevelsQuantileRow.holds Try.pinned (OpenSpec.ofChange fnExactLevelsQuantileWrong)

/-- 'laws.FnExactMergeLevels': WHATEVER THE INPUT: true; the input reads as it did. -/
def fnExactMergeLevelsSpec : ChangeSpec := { name := "fnExactMergeLevels", fn := fun _ => fun
  | [d1, d2] => { results := [.lit (.bool true)], args := [d1, d2] }
  | _ => none }
def fnExactMergeLevelsRow : OpenClaim := { program := "ytfbapbgiegploaa", sum := "6b0087dd0e3654f6f02ce220a2bc460404caf1fbf87d6c8366acc09f7f6d000d", func := "loop.example/g01347/laws.FnExactMergeLevels", spec := "fnExactMergeLevels", inPlace := ["math.Float64bits", "math.Float64frombits"], unfollowed := true, recurses := true, apart := false }
def FnExactMergeLevelsSaid : Prop := fnExactMergeLevelsRow.holds Try.pinned (OpenSpec.ofChange fnExactMergeLevelsSpec)

/-- ITS FALSE NEIGHBOUR: 'it returns false'. Refute it at one input. -/
def fnExactMergeLevelsWrong : ChangeSpec := { name := "fnExactMergeLevels", fn := fun _ => fun
  | [d1, d2] => { results := [.lit (.bool false)], args := [d1, d2] }
  | _ => none }
def FnExactMergeLevelsWrongFalsely : Prop := fnExactMergeLevelsRow.holds Try.pinned (OpenSpec.ofChange fnExactMergeLevelsWrong)

/-- 'laws.FnExactPutWindow': WHATEVER THE INPUT: true; the input reads as it did. -/
def fnExactPutWindowSpec : ChangeSpec := { name := "fnExactPutWindow", fn := fun _ => fun
  | [d1, d2, d3] => { results := [.lit (.bool true)], args := [d1, d2, d3] }
  | _ => none }
def fnExactPutWindowRow : OpenClaim := { program := "ytfbapbgiegploaa", sum := "6b0087dd0e3654f6f02ce220a2bc460404caf1fbf87d6c8366acc09f7f6d000d", func := "loop.example/g01347/laws.FnExactPutWindow", spec := "fnExactPutWindow", unfollowed := true, recurses := true, apart := false }
def FnExactPutWindowSaid : Prop := fnExactPutWindowRow.holds Try.pinned (OpenSpec.ofChange fnExactPutWindowSpec)

/-- ITS FALSE NEIGHBOUR: 'it returns false'. Refute it at one input. -/
def fnExactPutWindowWrong : ChangeSpec := { name := "fnExactPutWindow", fn := fun _ => fun
  | [d1, d2, d3] => { results := [.lit (.bool false)], args := [d1, d2, d3] }
  | _ => none }
def FnExactPutWindowWrongFalsely : Prop := fnExactPutWindowRow.holds Try.pinned (OpenSpec.ofChange fnExactPutWindowWrong)

/-- 'laws.FnExactCountOfZeros': WHATEVER THE INPUT: true; the input reads as it did. -/
def fnExactCountOfZerosSpec : ChangeSpec := { name := "fnExactCountOfZeros", fn := fun _ => fun
  | [d] => { results := [.lit (.bool true)], args := [d] }
  | _ => none }
def fnExactCountOfZerosRow : OpenClaim := { program := "ytfbapbgiegploaa", sum := "6b0087dd0e3654f6f02ce220a2bc460404caf1fbf87d6c8366acc09f7f6d000d", func := "loop.example/g01347/laws.FnExactCountOfZeros", spec := "fnExactCountOfZeros", inPlace := ["math.Float64frombits", "math.Float64bits"], apart := false }
def FnExactCountOfZerosSaid : Prop := fnExactCountOfZerosRow.holds Try.pinned (OpenSpec.ofChange fnExactCountOfZerosSpec)

/-- ITS FALSE NEIGHBOUR: 'it returns false'. Refute it at one input. -/
def fnExactCountOfZerosWrong : ChangeSpec := { name := "fnExactCountOfZeros", fn := fun _ => fun
  | [d] => { results := [.lit (.bool false)], args := [d] }
  | _ => none }
def FnExactCountOfZerosWrongFalsely : Prop := fnExactCountOfZerosRow.holds Try.pinned (OpenSpec.ofChange fnExactCountOfZerosWrong)

/-- 'laws.FnExactPutFinger': WHATEVER THE INPUT: true; the input reads as it did. -/
def fnExactPutFingerSpec : ChangeSpec := { name := "fnExactPutFinger", fn := fun _ => fun
  | [d1, d2] => { results := [.lit (.bool true)], args := [d1, d2] }
  | _ => none }
def fnExactPutFingerRow : OpenClaim := { program := "ytfbapbgiegploaa", sum := "6b0087dd0e3654f6f02ce220a2bc460404caf1fbf87d6c8366acc09f7f6d000d", func := "loop.example/g01347/laws.FnExactPutFinger", spec := "fnExactPutFinger", apart := false }
def FnExactPutFingerSaid : Prop := fnExactPutFingerRow.holds Try.pinned (OpenSpec.ofChange fnExactPutFingerSpec)

/-- ITS FALSE NEIGHBOUR: 'it returns false'. Refute it at one input. -/
def fnExactPutFingerWrong : ChangeSpec := { name := "fnExactPutFinger", fn := fun _ => fun
  | [d1, d2] => { results := [.lit (.bool false)], args := [d1, d2] }
  | _ => none }
def FnExactPutFingerWrongFalsely : Prop := fnExactPutFingerRow.holds Try.pinned (OpenSpec.ofChange fnExactPutFingerWrong)

/- THE SECOND FORM. 'bulk': how many values and letters a reading holds, each counted each time it is reached (what is shared counts as often as it is met; a slice's spare places count too). A statement '..UptoSaid' is the law's where the arguments, and the package variables that the reading takes, are together of bulk at most 1048576: NARROWER than '..Said'. Prove '..Said' where nothing that the law and all that it calls make is longer than what came in: it says more and counts as full. Else prove '..UptoSaid'. A law counts once. -/
mutual
def uptoBulk {H : Type} : DataW H → Nat
  | .lit (.string bytes) => bytes.length + 1
  | .lit _ => 1
  | .nil => 1
  | .ptr d => uptoBulk d + 1
  | .slice elems spare => uptoBulkAll elems + uptoBulkAll spare + 1
  | .agg parts => uptoBulkAll parts + 1
  | .iface _ d => uptoBulk d + 1
  | .map entries => uptoBulkEntries entries + 1
  | .held _ => 1
def uptoBulkAll {H : Type} : List (DataW H) → Nat
  | [] => 0
  | d :: r => uptoBulk d + uptoBulkAll r
def uptoBulkEntries {H : Type} : List (Lit × DataW H) → Nat
  | [] => 0
  | x :: r => uptoBulkEntry x + uptoBulkEntries r
def uptoBulkEntry {H : Type} : Lit × DataW H → Nat
  | (.string bytes, d) => bytes.length + uptoBulk d + 1
  | (_, d) => uptoBulk d + 1
 end
def uptoSmall : (H : Type) → List (DataW H) → Bool := fun _ ds => decide (uptoBulkAll ds ≤ 1048576)
def OpenSpec.upto (s : _root_.Go.ChangeSpec) : _root_.Go.OpenSpec := { _root_.Go.OpenSpec.ofChange s with cond := some uptoSmall }

/-- 'laws.FnLasts', WHERE WHAT IT READS IS OF BULK AT MOST 1048576: true; the input reads as it did. -/
def fnLastsUptoRow : OpenClaim := { program := "ytfbapbgiegploaa", sum := "6b0087dd0e3654f6f02ce220a2bc460404caf1fbf87d6c8366acc09f7f6d000d", func := "loop.example/g01347/laws.FnLasts", spec := "fnLasts", inPlace := ["math.Float64bits", "math.Float64frombits"], unfollowed := true, recurses := true, apart := false, narrowed := true }
def FnLastsUptoSaid : Prop := fnLastsUptoRow.holds Try.pinned (OpenSpec.upto fnLastsSpec)

/-- 'laws.FnSieves', WHERE WHAT IT READS IS OF BULK AT MOST 1048576: true; the input reads as it did. -/
def fnSievesUptoRow : OpenClaim := { program := "ytfbapbgiegploaa", sum := "6b0087dd0e3654f6f02ce220a2bc460404caf1fbf87d6c8366acc09f7f6d000d", func := "loop.example/g01347/laws.FnSieves", spec := "fnSieves", inPlace := ["math.Float64frombits", "math.Float64bits"], unfollowed := true, recurses := true, apart := false, narrowed := true }
def FnSievesUptoSaid : Prop := fnSievesUptoRow.holds Try.pinned (OpenSpec.upto fnSievesSpec)

/-- 'laws.FnSigned', WHERE WHAT IT READS IS OF BULK AT MOST 1048576: true; the input reads as it did. -/
def fnSignedUptoRow : OpenClaim := { program := "ytfbapbgiegploaa", sum := "6b0087dd0e3654f6f02ce220a2bc460404caf1fbf87d6c8366acc09f7f6d000d", func := "loop.example/g01347/laws.FnSigned", spec := "fnSigned", unfollowed := true, recurses := true, apart := false, narrowed := true }
def FnSignedUptoSaid : Prop := fnSignedUptoRow.holds Try.pinned (OpenSpec.upto fnSignedSpec)

/-- 'laws.FnDistinct', WHERE WHAT IT READS IS OF BULK AT MOST 1048576: true; the input reads as it did. -/
def fnDistinctUptoRow : OpenClaim := { program := "ytfbapbgiegploaa", sum := "6b0087dd0e3654f6f02ce220a2bc460404caf1fbf87d6c8366acc09f7f6d000d", func := "loop.example/g01347/laws.FnDistinct", spec := "fnDistinct", inPlace := ["math.Float64frombits", "math.Float64bits"], recurses := true, apart := false, narrowed := true }
def FnDistinctUptoSaid : Prop := fnDistinctUptoRow.holds Try.pinned (OpenSpec.upto fnDistinctSpec)

/-- 'laws.FnHalves', WHERE WHAT IT READS IS OF BULK AT MOST 1048576: true; the input reads as it did. -/
def fnHalvesUptoRow : OpenClaim := { program := "ytfbapbgiegploaa", sum := "6b0087dd0e3654f6f02ce220a2bc460404caf1fbf87d6c8366acc09f7f6d000d", func := "loop.example/g01347/laws.FnHalves", spec := "fnHalves", inPlace := ["math.Float64bits", "math.Float64frombits", "math.archCeil", "math.archFloor", "math.archTrunc"], unfollowed := true, recurses := true, apart := false, narrowed := true }
def FnHalvesUptoSaid : Prop := fnHalvesUptoRow.holds Try.pinned (OpenSpec.upto fnHalvesSpec)

/-- 'laws.FnExactCorrectedAt', WHERE WHAT IT READS IS OF BULK AT MOST 1048576: true; the input reads as it did. -/
def fnExactCorrectedAtUptoRow : OpenClaim := { program := "ytfbapbgiegploaa", sum := "6b0087dd0e3654f6f02ce220a2bc460404caf1fbf87d6c8366acc09f7f6d000d", func := "loop.example/g01347/laws.FnExactCorrectedAt", spec := "fnExactCorrectedAt", unfollowed := true, recurses := true, apart := false, narrowed := true }
def FnExactCorrectedAtUptoSaid : Prop := fnExactCorrectedAtUptoRow.holds Try.pinned (OpenSpec.upto fnExactCorrectedAtSpec)

/-- 'laws.FnExactPutLevels', WHERE WHAT IT READS IS OF BULK AT MOST 1048576: true; the input reads as it did. -/
def fnExactPutLevelsUptoRow : OpenClaim := { program := "ytfbapbgiegploaa", sum := "6b0087dd0e3654f6f02ce220a2bc460404caf1fbf87d6c8366acc09f7f6d000d", func := "loop.example/g01347/laws.FnExactPutLevels", spec := "fnExactPutLevels", inPlace := ["math.Float64bits", "math.Float64frombits"], unfollowed := true, recurses := true, apart := false, narrowed := true }
def FnExactPutLevelsUptoSaid : Prop := fnExactPutLevelsUptoRow.holds Try.pinned (OpenSpec.upto fnExactPutLevelsSpec)

/-- 'laws.FnExactLevelsQuantile', WHERE WHAT IT READS IS OF BULK AT MOST 1048576: true; the input reads as it did. -/
def fnExactLevelsQuantileUptoRow : OpenClaim := { program := "ytfbapbgiegploaa", sum := "6b0087dd0e3654f6f02ce220a2bc460404caf1fbf87d6c8366acc09f7f6d000d", func := "loop.example/g01347/laws.FnExactLevelsQuantile", spec := "fnExactLevelsQuantile", inPlace := ["math.archCeil", "math.archFloor", "math.Float64bits", "math.Float64frombits", "math.archTrunc"], unfollowed := true, recurses := true, apart := false, narrowed := true }
def FnExactLevelsQuantileUptoSaid : Prop := fnExactLevelsQuantileUptoRow.holds Try.pinned (OpenSpec.upto fnExactLevelsQuantileSpec)

/-- 'laws.FnExactMergeLevels', WHERE WHAT IT READS IS OF BULK AT MOST 1048576: true; the input reads as it did. -/
def fnExactMergeLevelsUptoRow : OpenClaim := { program := "ytfbapbgiegploaa", sum := "6b0087dd0e3654f6f02ce220a2bc460404caf1fbf87d6c8366acc09f7f6d000d", func := "loop.example/g01347/laws.FnExactMergeLevels", spec := "fnExactMergeLevels", inPlace := ["math.Float64bits", "math.Float64frombits"], unfollowed := true, recurses := true, apart := false, narrowed := true }
def FnExactMergeLevelsUptoSaid : Prop := fnExactMergeLevelsUptoRow.holds Try.pinned (OpenSpec.upto fnExactMergeLevelsSpec)

/-- 'laws.FnExactPutWindow', WHERE WHAT IT READS IS OF BULK AT MOST 1048576: true; the input reads as it did. -/
def fnExactPutWindowUptoRow : OpenClaim := { program := "ytfbapbgiegploaa", sum := "6b0087dd0e3654f6f02ce220a2bc460404caf1fbf87d6c8366acc09f7f6d000d", func := "loop.example/g01347/laws.FnExactPutWindow", spec := "fnExactPutWindow", unfollowed := true, recurses := true, apart := false, narrowed := true }
def FnExactPutWindowUptoSaid : Prop := fnExactPutWindowUptoRow.holds Try.pinned (OpenSpec.upto fnExactPutWindowSpec)

/-- 'laws.FnExactCountOfZeros', WHERE WHAT IT READS IS OF BULK AT MOST 1048576: true; the input reads as it did. -/
def fnExactCountOfZerosUptoRow : OpenClaim := { program := "ytfbapbgiegploaa", sum := "6b0087dd0e3654f6f02ce220a2bc460404caf1fbf87d6c8366acc09f7f6d000d", func := "loop.example/g01347/laws.FnExactCountOfZeros", spec := "fnExactCountOfZeros", inPlace := ["math.Float64frombits", "math.Float64bits"], apart := false, narrowed := true }
def FnExactCountOfZerosUptoSaid : Prop := fnExactCountOfZerosUptoRow.holds Try.pinned (OpenSpec.upto fnExactCountOfZerosSpec)

/-- 'laws.FnExactPutFinger', WHERE WHAT IT READS IS OF BULK AT MOST 1048576: true; the input reads as it did. -/
def fnExactPutFingerUptoRow : OpenClaim := { program := "ytfbapbgiegploaa", sum := "6b0087dd0e3654f6f02ce220a2bc460404caf1fbf87d6c8366acc09f7f6d000d", func := "loop.example/g01347/laws.FnExactPutFinger", spec := "fnExactPutFinger", apart := false, narrowed := true }
def FnExactPutFingerUptoSaid : Prop := fnExactPutFingerUptoRow.holds Try.pinned (OpenSpec.upto fnExactPutFingerSpec)

end Rows
end Go.Proofs.Ytfbapbgiegploaa
