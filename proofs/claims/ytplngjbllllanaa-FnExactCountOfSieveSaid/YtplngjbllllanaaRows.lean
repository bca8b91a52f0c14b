/-
  No cell of these rows narrows 'for every input' (looked for: loops, veiled, ifaces, maps, wideKeys, modest, calm, conditions, laid).
  DERIVED. THE GIVEN ROWS OF THIS SEAT. 10 by the template 'for every input the law returns true; each argument reads behind the call as it read before'; 0 by the template 'total and deterministic' (their statements: YtplngjbllllanaaTotals.lean).
  GIVEN WITH THE SEED: the statements are not yours to turn. If you find one false, say at which input.
  Laid BY PROGRAM, IN A SANDBOX (cutbox-rows.mjs): the forced cells as the released guide's own fill.sh prints them over the translation 4601361f46fde77e… (all of the seat's roots in one cut). By AI agents, Wed Nov 11 2026. No macro, syntax, notation, axiom, sorry.
-/
import Derived.Test.YtplngjbllllanaaChecked
import GoSem.Claim
import GoSem.ClaimJoined
import GoSem.ClaimMapViews
import Derived.JoinedTies
import Derived.KernelRfl
namespace Go.Proofs.Ytplngjbllllanaa
/- THE CELL 'sum', in the pinned program and in every row, IS THE sha256 OF THE DUMP (.gsa) THAT YtplngjbllllanaaProg.lean LOADS. Nothing in Lean hashes anything: it is a label: what it is worth is what the hold of that sum in a sandbox is worth. -/
noncomputable def Try.pinned : Pinned := { name := "ytplngjbllllanaa", sum := "4601361f46fde77eb9718cce625d1ff41c2e2c5c060cc4e521d8708e3420a582", checked := Try.checked }
namespace Rows
def none {H : Type} : Left H := { results := [], args := [] }

/-- 'laws.FnExactLevelsQuantile': WHATEVER THE INPUT: true; the input reads as it did. -/
def fnExactLevelsQuantileSpec : ChangeSpec := { name := "fnExactLevelsQuantile", fn := fun _ => fun
  | [d1, d2] => { results := [.lit (.bool true)], args := [d1, d2] }
  | _ => none }
def fnExactLevelsQuantileRow : OpenClaim := { program := "ytplngjbllllanaa", sum := "4601361f46fde77eb9718cce625d1ff41c2e2c5c060cc4e521d8708e3420a582", func := "loop.example/g01347/laws.FnExactLevelsQuantile", spec := "fnExactLevelsQuantile", inPlace := ["math.archCeil", "math.archFloor", "math.Float64bits", "math.Float64frombits", "math.archTrunc"], unfollowed := true, recurses := true, apart := false }
def FnExactLevelsQuantileSaid : Prop := fnExactLevelsQuantileRow.holds Try.pinned (OpenSpec.ofChange fnExactLevelsQuantileSpec)

/-- ITS FALSE NEIGHBOUR: 'it returns false'. Refute it at one input. -/
def fnExactLevelsQuantileWrong : ChangeSpec := { name := "fnExactLevelsQuantile", fn := fun _ => fun
  | [d1, d2] => { results := [.lit (.bool false)], args := [d1, d2] }
  | _ => none }
def FnExactLevelsQuantileWrongFalsely : Prop := fnExactLevelsQuantileRow.holds Try.pinned (OpenSpec.ofChange fnExactLevelsQuantileWrong)

/-- 'laws.FnExactPutLevels': WHATEVER THE INPUT: true; the input reads as it did. -/
def fnExactPutLevelsSpec : ChangeSpec := { name := "fnExactPutLevels", fn := fun _ => fun
  | [d1, d2] => { results := [.lit (.bool true)], args := [d1, d2] }
  | _ => none }
def fnExactPutLevelsRow : OpenClaim := { program := "ytplngjbllllanaa", sum := "4601361f46fde77eb9718cce625d1ff41c2e2c5c060cc4e521d8708e3420a582", func := "loop.example/g01347/laws.FnExactPutLevels", spec := "fnExactPutLevels", inPlace := ["math.Float64bits", "math.Float64frombits"], unfollowed := true, recurses := true, apart := false }
def FnExactPutLevelsSaid : Prop := fnExactPutLevelsRow.holds Try.pinned (OpenSpec.ofChange fnExactPutLevelsSpec)

/-- ITS FALSE NEIGHBOUR: 'it returns false'. Refute it at one input. -/
def fnExactPutLevelsWrong : ChangeSpec := { name := "fnExactPutLevels", fn := fun _ => fun
  | [d1, d2] => { results := [.lit (.bool false)], args := [d1, d2] }
  | _ => none }
def FnExactPutLevelsWrongFalsely : Prop := fnExactPutLevelsRow.holds Try.pinned (OpenSpec.ofChange fnExactPutLevelsWrong)

/-- 'laws.FnExactMergeLevels': WHATEVER THE INPUT: true; the input reads as it did. -/
def fnExactMergeLevelsSpec : ChangeSpec := { name := "fnExactMergeLevels", fn := fun _ => fun
  | [d1, d2] => { results := [.lit (.bool true)], args := [d1, d2] }
  | _ => none }
def fnExactMergeLevelsRow : OpenClaim := { program := "ytplngjbllllanaa", sum := "4601361f46fde77eb9718cce625d1ff41c2e2c5c060cc4e521d8708e3420a582", func := "loop.example/g01347/laws.FnExactMergeLevels", spec := "fnExactMergeLevels", inPlace := ["math.Float64bits", "math.Float64frombits"], unfollowed := true, recurses := true, apart := false }
def FnExactMergeLevelsSaid : Prop := fnExactMergeLevelsRow.holds Try.pinned (OpenSpec.ofChange fnExactMergeLevelsSpec)

/-- ITS FALSE NEIGHBOUR: 'it returns false'. Refute it at one input. -/
def fnExactMergeLevelsWrong : ChangeSpec := { name := "fnExactMergeLevels", fn := fun _ => fun
  | [d1, d2] => { results := [.lit (.bool false)], args := [d1, d2] }
  | _ => none }
def FnExactMergeLevelsWrongFalsely : Prop := fnExactMergeLevelsRow.holds Try.pinned (OpenSpec.ofChange fnExactMergeLevelsWrong)

/-- 'laws.FnExactCountWindow': WHATEVER THE INPUT: true; the input reads as it did. -/
def fnExactCountWindowSpec : ChangeSpec := { name := "fnExactCountWindow", fn := fun _ => fun
  | [d1, d2] => { results := [.lit (.bool true)], args := [d1, d2] }
  | _ => none }
def fnExactCountWindowRow : OpenClaim := { program := "ytplngjbllllanaa", sum := "4601361f46fde77eb9718cce625d1ff41c2e2c5c060cc4e521d8708e3420a582", func := "loop.example/g01347/laws.FnExactCountWindow", spec := "fnExactCountWindow", unfollowed := true, recurses := true, apart := false }
def FnExactCountWindowSaid : Prop := fnExactCountWindowRow.holds Try.pinned (OpenSpec.ofChange fnExactCountWindowSpec)

/-- ITS FALSE NEIGHBOUR: 'it returns false'. Refute it at one input. -/
def fnExactCountWindowWrong : ChangeSpec := { name := "fnExactCountWindow", fn := fun _ => fun
  | [d1, d2] => { results := [.lit (.bool false)], args := [d1, d2] }
  | _ => none }
def FnExactCountWindowWrongFalsely : Prop := fnExactCountWindowRow.holds Try.pinned (OpenSpec.ofChange fnExactCountWindowWrong)

/-- 'laws.FnExactBoundsOfWindow': WHATEVER THE INPUT: true; the input reads as it did. -/
def fnExactBoundsOfWindowSpec : ChangeSpec := { name := "fnExactBoundsOfWindow", fn := fun _ => fun
  | [d1, d2] => { results := [.lit (.bool true)], args := [d1, d2] }
  | _ => none }
def fnExactBoundsOfWindowRow : OpenClaim := { program := "ytplngjbllllanaa", sum := "4601361f46fde77eb9718cce625d1ff41c2e2c5c060cc4e521d8708e3420a582", func := "loop.example/g01347/laws.FnExactBoundsOfWindow", spec := "fnExactBoundsOfWindow", unfollowed := true, recurses := true, apart := false }
def FnExactBoundsOfWindowSaid : Prop := fnExactBoundsOfWindowRow.holds Try.pinned (OpenSpec.ofChange fnExactBoundsOfWindowSpec)

/-- ITS FALSE NEIGHBOUR: 'it returns false'. Refute it at one input. -/
def fnExactBoundsOfWindowWrong : ChangeSpec := { name := "fnExactBoundsOfWindow", fn := fun _ => fun
  | [d1, d2] => { results := [.lit (.bool false)], args := [d1, d2] }
  | _ => none }
def FnExactBoundsOfWindowWrongFalsely : Prop := fnExactBoundsOfWindowRow.holds Try.pinned (OpenSpec.ofChange fnExactBoundsOfWindowWrong)

/-- 'laws.FnExactPutWindow': WHATEVER THE INPUT: true; the input reads as it did. -/
def fnExactPutWindowSpec : ChangeSpec := { name := "fnExactPutWindow", fn := fun _ => fun
  | [d1, d2, d3] => { results := [.lit (.bool true)], args := [d1, d2, d3] }
  | _ => none }
def fnExactPutWindowRow : OpenClaim := { program := "ytplngjbllllanaa", sum := "4601361f46fde77eb9718cce625d1ff41c2e2c5c060cc4e521d8708e3420a582", func := "loop.example/g01347/laws.FnExactPutWindow", spec := "fnExactPutWindow", unfollowed := true, recurses := true, apart := false }
def FnExactPutWindowSaid : Prop := fnExactPutWindowRow.holds Try.pinned (OpenSpec.ofChange fnExactPutWindowSpec)

/-- ITS FALSE NEIGHBOUR: 'it returns false'. Refute it at one input. -/
def fnExactPutWindowWrong : ChangeSpec := { name := "fnExactPutWindow", fn := fun _ => fun
  | [d1, d2, d3] => { results := [.lit (.bool false)], args := [d1, d2, d3] }
  | _ => none }
def FnExactPutWindowWrongFalsely : Prop := fnExactPutWindowRow.holds Try.pinned (OpenSpec.ofChange fnExactPutWindowWrong)

/-- 'laws.FnExactOftenInWindow': WHATEVER THE INPUT: true; the input reads as it did. -/
def fnExactOftenInWindowSpec : ChangeSpec := { name := "fnExactOftenInWindow", fn := fun _ => fun
  | [d1, d2] => { results := [.lit (.bool true)], args := [d1, d2] }
  | _ => none }
def fnExactOftenInWindowRow : OpenClaim := { program := "ytplngjbllllanaa", sum := "4601361f46fde77eb9718cce625d1ff41c2e2c5c060cc4e521d8708e3420a582", func := "loop.example/g01347/laws.FnExactOftenInWindow", spec := "fnExactOftenInWindow", unfollowed := true, recurses := true, apart := false }
def FnExactOftenInWindowSaid : Prop := fnExactOftenInWindowRow.holds Try.pinned (OpenSpec.ofChange fnExactOftenInWindowSpec)

/-- ITS FALSE NEIGHBOUR: 'it returns false'. Refute it at one input. -/
def fnExactOftenInWindowWrong : ChangeSpec := { name := "fnExactOftenInWindow", fn := fun _ => fun
  | [d1, d2] => { results := [.lit (.bool false)], args := [d1, d2] }
  | _ => none }
def FnExactOftenInWindowWrongFalsely : Prop := fnExactOftenInWindowRow.holds Try.pinned (OpenSpec.ofChange fnExactOftenInWindowWrong)

/-- 'laws.FnExactSampleSeen': WHATEVER THE INPUT: true; the input reads as it did. -/
def fnExactSampleSeenSpec : ChangeSpec := { name := "fnExactSampleSeen", fn := fun _ => fun
  | [d1, d2] => { results := [.lit (.bool true)], args := [d1, d2] }
  | _ => none }
def fnExactSampleSeenRow : OpenClaim := { program := "ytplngjbllllanaa", sum := "4601361f46fde77eb9718cce625d1ff41c2e2c5c060cc4e521d8708e3420a582", func := "loop.example/g01347/laws.FnExactSampleSeen", spec := "fnExactSampleSeen", unfollowed := true, recurses := true, apart := false }
def FnExactSampleSeenSaid : Prop := fnExactSampleSeenRow.holds Try.pinned (OpenSpec.ofChange fnExactSampleSeenSpec)

/-- ITS FALSE NEIGHBOUR: 'it returns false'. Refute it at one input. -/
def fnExactSampleSeenWrong : ChangeSpec := { name := "fnExactSampleSeen", fn := fun _ => fun
  | [d1, d2] => { results := [.lit (.bool false)], args := [d1, d2] }
  | _ => none }
def FnExactSampleSeenWrongFalsely : Prop := fnExactSampleSeenRow.holds Try.pinned (OpenSpec.ofChange fnExactSampleSeenWrong)

/-- 'laws.FnExactCountOfZeros': WHATEVER THE INPUT: true; the input reads as it did. -/
def fnExactCountOfZerosSpec : ChangeSpec := { name := "fnExactCountOfZeros", fn := fun _ => fun
  | [d] => { results := [.lit (.bool true)], args := [d] }
  | _ => none }
def fnExactCountOfZerosRow : OpenClaim := { program := "ytplngjbllllanaa", sum := "4601361f46fde77eb9718cce625d1ff41c2e2c5c060cc4e521d8708e3420a582", func := "loop.example/g01347/laws.FnExactCountOfZeros", spec := "fnExactCountOfZeros", inPlace := ["math.Float64frombits", "math.Float64bits"], apart := false }
def FnExactCountOfZerosSaid : Prop := fnExactCountOfZerosRow.holds Try.pinned (OpenSpec.ofChange fnExactCountOfZerosSpec)

/-- ITS FALSE NEIGHBOUR: 'it returns false'. Refute it at one input. -/
def fnExactCountOfZerosWrong : ChangeSpec := { name := "fnExactCountOfZeros", fn := fun _ => fun
  | [d] => { results := [.lit (.bool false)], args := [d] }
  | _ => none }
def FnExactCountOfZerosWrongFalsely : Prop := fnExactCountOfZerosRow.holds Try.pinned (OpenSpec.ofChange fnExactCountOfZerosWrong)

/-- 'laws.FnExactCountOfSieve': WHATEVER THE INPUT: true; the input reads as it did. -/
def fnExactCountOfSieveSpec : ChangeSpec := { name := "fnExactCountOfSieve", fn := fun _ => fun
  | [d] => { results := [.lit (.bool true)], args := [d] }
  | _ => none }
def fnExactCountOfSieveRow : OpenClaim := { program := "ytplngjbllllanaa", sum := "4601361f46fde77eb9718cce625d1ff41c2e2c5c060cc4e521d8708e3420a582", func := "loop.example/g01347/laws.FnExactCountOfSieve", spec := "fnExactCountOfSieve", inPlace := ["math.Float64frombits", "math.Float64bits"], apart := false }
def FnExactCountOfSieveSaid : Prop := fnExactCountOfSieveRow.holds Try.pinned (OpenSpec.ofChange fnExactCountOfSieveSpec)

/-- ITS FALSE NEIGHBOUR: 'it returns false'. Refute it at one input. -/
def fnExactCountOfSieveWrong : ChangeSpec := { name := "fnExactCountOfSieve", fn := fun _ => fun
  | [d] => { results := [.lit (.bool false)], args := [d] }
  | _ => none }
def FnExactCountOfSieveWrongFalsely : Prop := fnExactCountOfSieveRow.holds Try.pinned (OpenSpec.ofChange fnExactCountOfSieveWrong)

/- THE SECOND FORM. 'bulk': how many values and letters a reading holds, each counted each time it is reached (what is shared counts as often as it is met; a slice's spare places count too). A statement '..UptoSaid' is the law's where the arguments, and the package variables that the reading takes, are together of bulk at most 1048576: NARROWER than '..Said'. Prove '..Said' where nothing that the law and all that it calls make is longer than what came in: it says more and counts as full. Else prove '..UptoSaid'. A law counts once. -/
mutual
def uptoBulk {H : Type} : DataW H → Nat
  | .lit (.string bytes) => bytes.length + 1
  | .lit _ => 1
  | .nil => 1
  | .ptr d => uptoBulk d + 1
  | .slice elems spare => uptoBulkAll elems + uptoBulkAll spare + 1
  | .agg parts => uptoBulkAll parts + 1
  | .iface _ d => uptoBulk d + 1
  | .map entries => uptoBulkEntries entries + 1
  | .held _ => 1
def uptoBulkAll {H : Type} : List (DataW H) → Nat
  | [] => 0
  | d :: r => uptoBulk d + uptoBulkAll r
def uptoBulkEntries {H : Type} : List (Lit × DataW H) → Nat
  | [] => 0
  | x :: r => uptoBulkEntry x + uptoBulkEntries r
def uptoBulkEntry {H : Type} : Lit × DataW H → Nat
  | (.string bytes, d) => bytes.length + uptoBulk d + 1
  | (_, d) => uptoBulk d + 1
 end
def uptoSmall : (H : Type) → List (DataW H) → Bool := fun _ ds => decide (uptoBulkAll ds ≤ 1048576)
def OpenSpec.upto (s : _root_.Go.ChangeSpec) : _root_.Go.OpenSpec := { _root_.Go.OpenSpec.ofChange s with cond := some uptoSmall }

/-- 'laws.FnExactLevelsQuantile', WHERE WHAT IT READS IS OF BULK AT MOST 1048576: true; the input reads as it did. -/
def fnExactLevelsQuantileUptoRow : OpenClaim := { program := "ytplngjbllllanaa", sum := "4601361f46fde77eb9718cce625d1ff41c2e2c5c060cc4e521d8708e3420a582", func := "loop.example/g01347/laws.FnExactLevelsQuantile", spec := "fnExactLevelsQuantile", inPlace := ["math.archCeil", "math.archFloor", "math.Float64bits", "math.Float64frombits", "math.archTrunc"], unfollowed := true, recurses := true, apart := false, narrowed := true }
def FnExactLevelsQuantileUptoSaid : Prop := fnExactLevelsQuantileUptoRow.holds Try.pinned (OpenSpec.upto fnExactLevelsQuantileSpec)

/-- 'laws.FnExactPutLevels', WHERE WHAT IT READS IS OF BULK AT MOST 1048576: true; the input reads as it did. -/
def fnExactPutLevelsUptoRow : OpenClaim := { program := "ytplngjbllllanaa", sum := "4601361f46fde77eb9718cce625d1ff41c2e2c5c060cc4e521d8708e3420a582", func := "loop.example/g01347/laws.FnExactPutLevels", spec := "fnExactPutLevels", inPlace := ["math.Float64bits", "math.Float64frombits"], unfollowed := true, recurses := true, apart := false, narrowed := true }
def FnExactPutLevelsUptoSaid : Prop := fnExactPutLevelsUptoRow.holds Try.pinned (OpenSpec.upto fnExactPutLevelsSpec)

/-- 'laws.FnExactMergeLevels', WHERE WHAT IT READS IS OF BULK AT MOST 1048576: true; the input reads as it did. -/
def fnExactMergeLevelsUptoRow : OpenClaim := { program := "ytplngjbllllanaa", sum := "4601361f46fde77eb9718cce625d1ff41c2e2c5c060cc4e521d8708e3420a582", func := "loop.example/g01347/laws.FnExactMergeLevels", spec := "fnExactMergeLevels", inPlace := ["math.Float64bits", "math.Float64frombits"], unfollowed := true, recurses := true, apart := false, narrowed := true }
def FnExactMergeLevelsUptoSaid : Prop := fnExactMergeLevelsUptoRow.holds Try.pinned (OpenSpec.upto fnExactMergeLevelsSpec)

/-- 'laws.FnExactCountWindow', WHERE WHAT IT READS IS OF BULK AT MOST 1048576: true; the input reads as it did. -/
def fnExactCountWindowUptoRow : OpenClaim := { program := "ytplngjbllllanaa", sum := "4601361f46fde77eb9718cce625d1ff41c2e2c5c060cc4e521d8708e3420a582", func := "loop.example/g01347/laws.FnExactCountWindow", spec := "fnExactCountWindow", unfollowed := true, recurses := true, apart := false, narrowed := true }
def FnExactCountWindowUptoSaid : Prop := fnExactCountWindowUptoRow.holds Try.pinned (OpenSpec.upto fnExactCountWindowSpec)

/-- 'laws.FnExactBoundsOfWindow', WHERE WHAT IT READS IS OF BULK AT MOST 1048576: true; the input reads as it did. -/
def fnExactBoundsOfWindowUptoRow : OpenClaim := { program := "ytplngjbllllanaa", sum := "4601361f46fde77eb9718cce625d1ff41c2e2c5c060cc4e521d8708e3420a582", func := "loop.example/g01347/laws.FnExactBoundsOfWindow", spec := "fnExactBoundsOfWindow", unfollowed := true, recurses := true, apart := false, narrowed := true }
def FnExactBoundsOfWindowUptoSaid : Prop := fnExactBoundsOfWindowUptoRow.holds Try.pinned (OpenSpec.upto fnExactBoundsOfWindowSpec)

/-- 'laws.FnExactPutWindow', WHERE WHAT IT READS IS OF BULK AT MOST 1048576: true; the input reads as it did. -/
def fnExactPutWindowUptoRow : OpenClaim := { program := "ytplngjbllllanaa", sum := "4601361f46fde77eb9718cce625d1ff41c2e2c5c060cc4e521d8708e3420a582", func := "loop.example/g01347/laws.FnExactPutWindow", spec := "fnExactPutWindow", unfollowed := true, recurses := true, apart := false, narrowed := true }
def FnExactPutWindowUptoSaid : Prop := fnExactPutWindowUptoRow.holds Try.pinned (OpenSpec.upto fnExactPutWindowSpec)

/-- 'laws.FnExactOftenInWindow', WHERE WHAT IT READS IS OF BULK AT MOST 1048576: true; the input reads as it did. -/
def fnExactOftenInWindowUptoRow : OpenClaim := { program := "ytplngjbllllanaa", sum := "4601361f46fde77eb9718cce625d1ff41c2e2c5c060cc4e521d8708e3420a582", func := "loop.example/g01347/laws.FnExactOftenInWindow", spec := "fnExactOftenInWindow", unfollowed := true, recurses := true, apart := false, narrowed := true }
def FnExactOftenInWindowUptoSaid : Prop := fnExactOftenInWindowUptoRow.holds Try.pinned (OpenSpec.upto fnExactOftenInWindowSpec)

/-- 'laws.FnExactSampleSeen', WHERE WHAT IT READS IS OF BULK AT MOST 1048576: true; the input reads as it did. -/
def fnExactSampleSeenUptoRow : OpenClaim := { program := "ytplngjbllllanaa", sum := "4601361f46fde77eb9718cce625d1ff41c2e2c5c060cc4e521d8708e3420a582", func := "loop.example/g01347/laws.FnExactSampleSeen", spec := "fnExactSampleSeen", unfollowed := true, recurses := true, apart := false, narrowed := true }
def FnExactSampleSeenUptoSaid : Prop := fnExactSampleSeenUptoRow.holds Try.pinned (OpenSpec.upto fnExactSampleSeenSpec)

/-- 'laws.FnExactCountOfZeros', WHERE WHAT IT READS IS OF BULK AT MOST 1048576: true; the input reads as it did. -/
def fnExactCountOfZerosUptoRow : OpenClaim := { program := "ytplngjbllllanaa", sum := "4601361f46fde77eb9718cce625d1ff41c2e2c5c060cc4e521d8708e3420a582", func := "loop.example/g01347/laws.FnExactCountOfZeros", spec := "fnExactCountOfZeros", inPlace := ["math.Float64frombits", "math.Float64bits"], apart := false, narrowed := true }
def FnExactCountOfZerosUptoSaid : Prop := fnExactCountOfZerosUptoRow.holds Try.pinned (OpenSpec.upto fnExactCountOfZerosSpec)

/-- 'laws.FnExactCountOfSieve', WHERE WHAT IT READS IS OF BULK AT MOST 1048576: true; the input reads as it did. -/
def fnExactCountOfSieveUptoRow : OpenClaim := { program := "ytplngjbllllanaa", sum := "4601361f46fde77eb9718cce625d1ff41c2e2c5c060cc4e521d8708e3420a582", func := "loop.example/g01347/laws.FnExactCountOfSieve", spec := "fnExactCountOfSieve", inPlace := ["math.Float64frombits", "math.Float64bits"], apart := false, narrowed := true }
def FnExactCountOfSieveUptoSaid : Prop := fnExactCountOfSieveUptoRow.holds Try.pinned (OpenSpec.upto fnExactCountOfSieveSpec)

end Rows
end Go.Proofs.Ytplngjbllllanaa
