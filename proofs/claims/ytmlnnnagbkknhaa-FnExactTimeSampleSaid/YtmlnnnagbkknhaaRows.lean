/-
  No cell of these rows narrows 'for every input' (looked for: loops, veiled, ifaces, maps, wideKeys, modest, calm, conditions, laid).
  DERIVED. THE GIVEN ROWS OF THIS SEAT. 10 by the template 'for every input the law returns true; each argument reads behind the call as it read before'; 0 by the template 'total and deterministic' (their statements: YtmlnnnagbkknhaaTotals.lean).
  GIVEN WITH THE SEED: the statements are not yours to turn. If you find one false, say at which input.
  Laid BY PROGRAM, IN A SANDBOX (cutbox-rows.mjs): the forced cells as the released guide's own fill.sh prints them over the translation c7a0da64204e9ae0… (all of the seat's roots in one cut). By AI agents, Wed Nov 11 2026. No macro, syntax, notation, axiom, sorry.
-/
import Derived.Test.YtmlnnnagbkknhaaChecked
import GoSem.Claim
import GoSem.ClaimJoined
import GoSem.ClaimMapViews
import Derived.JoinedTies
import Derived.KernelRfl
namespace Go.Proofs.Ytmlnnnagbkknhaa
/- THE CELL 'sum', in the pinned program and in every row, IS THE sha256 OF THE DUMP (.gsa) THAT YtmlnnnagbkknhaaProg.lean LOADS. Nothing in Lean hashes anything: it is a label: what it is worth is what the hold of that sum in a sandbox is worth. -/
noncomputable def Try.pinned : Pinned := { name := "ytmlnnnagbkknhaa", sum := "c7a0da64204e9ae08fdfcc6a858410424a8f35b1e9ac4f1ff18ee987aed7f4c0", checked := Try.checked }
namespace Rows
def none {H : Type} : Left H := { results := [], args := [] }

/-- 'laws.FnExactValidWindow': WHATEVER THE INPUT: true; the input reads as it did. -/
def fnExactValidWindowSpec : ChangeSpec := { name := "fnExactValidWindow", fn := fun _ => fun
  | [d] => { results := [.lit (.bool true)], args := [d] }
  | _ => none }
def fnExactValidWindowRow : OpenClaim := { program := "ytmlnnnagbkknhaa", sum := "c7a0da64204e9ae08fdfcc6a858410424a8f35b1e9ac4f1ff18ee987aed7f4c0", func := "loop.example/g01347/laws.FnExactValidWindow", spec := "fnExactValidWindow", apart := false }
def FnExactValidWindowSaid : Prop := fnExactValidWindowRow.holds Try.pinned (OpenSpec.ofChange fnExactValidWindowSpec)

/-- ITS FALSE NEIGHBOUR: 'it returns false'. Refute it at one input. -/
def fnExactValidWindowWrong : ChangeSpec := { name := "fnExactValidWindow", fn := fun _ => fun
  | [d] => { results := [.lit (.bool false)], args := [d] }
  | _ => none }
def FnExactValidWindowWrongFalsely : Prop := fnExactValidWindowRow.holds Try.pinned (OpenSpec.ofChange fnExactValidWindowWrong)

/-- 'laws.FnExactSameWindow': WHATEVER THE INPUT: true; the input reads as it did. -/
def fnExactSameWindowSpec : ChangeSpec := { name := "fnExactSameWindow", fn := fun _ => fun
  | [d1, d2] => { results := [.lit (.bool true)], args := [d1, d2] }
  | _ => none }
def fnExactSameWindowRow : OpenClaim := { program := "ytmlnnnagbkknhaa", sum := "c7a0da64204e9ae08fdfcc6a858410424a8f35b1e9ac4f1ff18ee987aed7f4c0", func := "loop.example/g01347/laws.FnExactSameWindow", spec := "fnExactSameWindow", apart := false }
def FnExactSameWindowSaid : Prop := fnExactSameWindowRow.holds Try.pinned (OpenSpec.ofChange fnExactSameWindowSpec)

/-- ITS FALSE NEIGHBOUR: 'it returns false'. Refute it at one input. -/
def fnExactSameWindowWrong : ChangeSpec := { name := "fnExactSameWindow", fn := fun _ => fun
  | [d1, d2] => { results := [.lit (.bool false)], args := [d1, d2] }
  | _ => none }
def FnExactSameWindowWrongFalsely : Prop := fnExactSameWindowRow.holds Try.pinned (OpenSpec.ofChange fnExactSameWindowWrong)

/-- 'laws.FnExactNewWindow': WHATEVER THE INPUT: true; the input reads as it did. -/
def fnExactNewWindowSpec : ChangeSpec := { name := "fnExactNewWindow", fn := fun _ => fun
  | [d1, d2] => { results := [.lit (.bool true)], args := [d1, d2] }
  | _ => none }
def fnExactNewWindowRow : OpenClaim := { program := "ytmlnnnagbkknhaa", sum := "c7a0da64204e9ae08fdfcc6a858410424a8f35b1e9ac4f1ff18ee987aed7f4c0", func := "loop.example/g01347/laws.FnExactNewWindow", spec := "fnExactNewWindow", apart := false }
def FnExactNewWindowSaid : Prop := fnExactNewWindowRow.holds Try.pinned (OpenSpec.ofChange fnExactNewWindowSpec)

/-- ITS FALSE NEIGHBOUR: 'it returns false'. Refute it at one input. -/
def fnExactNewWindowWrong : ChangeSpec := { name := "fnExactNewWindow", fn := fun _ => fun
  | [d1, d2] => { results := [.lit (.bool false)], args := [d1, d2] }
  | _ => none }
def FnExactNewWindowWrongFalsely : Prop := fnExactNewWindowRow.holds Try.pinned (OpenSpec.ofChange fnExactNewWindowWrong)

/-- 'laws.FnExactCountWindow': WHATEVER THE INPUT: true; the input reads as it did. -/
def fnExactCountWindowSpec : ChangeSpec := { name := "fnExactCountWindow", fn := fun _ => fun
  | [d1, d2] => { results := [.lit (.bool true)], args := [d1, d2] }
  | _ => none }
def fnExactCountWindowRow : OpenClaim := { program := "ytmlnnnagbkknhaa", sum := "c7a0da64204e9ae08fdfcc6a858410424a8f35b1e9ac4f1ff18ee987aed7f4c0", func := "loop.example/g01347/laws.FnExactCountWindow", spec := "fnExactCountWindow", unfollowed := true, recurses := true, apart := false }
def FnExactCountWindowSaid : Prop := fnExactCountWindowRow.holds Try.pinned (OpenSpec.ofChange fnExactCountWindowSpec)

/-- ITS FALSE NEIGHBOUR: 'it returns false'. Refute it at one input. -/
def fnExactCountWindowWrong : ChangeSpec := { name := "fnExactCountWindow", fn := fun _ => fun
  | [d1, d2] => { results := [.lit (.bool false)], args := [d1, d2] }
  | _ => none }
def FnExactCountWindowWrongFalsely : Prop := fnExactCountWindowRow.holds Try.pinned (OpenSpec.ofChange fnExactCountWindowWrong)

/-- 'laws.FnExactBoundsOfWindow': WHATEVER THE INPUT: true; the input reads as it did. -/
def fnExactBoundsOfWindowSpec : ChangeSpec := { name := "fnExactBoundsOfWindow", fn := fun _ => fun
  | [d1, d2] => { results := [.lit (.bool true)], args := [d1, d2] }
  | _ => none }
def fnExactBoundsOfWindowRow : OpenClaim := { program := "ytmlnnnagbkknhaa", sum := "c7a0da64204e9ae08fdfcc6a858410424a8f35b1e9ac4f1ff18ee987aed7f4c0", func := "loop.example/g01347/laws.FnExactBoundsOfWindow", spec := "fnExactBoundsOfWindow", unfollowed := true, recurses := true, apart := false }
def FnExactBoundsOfWindowSaid : Prop := fnExactBoundsOfWindowRow.holds Try.pinned (OpenSpec.ofChange fnExactBoundsOfWindowSpec)

/-- ITS FALSE NEIGHBOUR: 'it returns false'. Refute it at one input. -/
def fnExactBoundsOfWindowWrong : ChangeSpec := { name := "fnExactBoundsOfWindow", fn := fun _ => fun
  | [d1, d2] => { results := [.lit (.bool false)], args := [d1, d2] }
  | _ => none }
def FnExactBoundsOfWindowWrongFalsely : Prop := fnExactBoundsOfWindowRow.holds Try.pinned (OpenSpec.ofChange fnExactBoundsOfWindowWrong)

/-- 'laws.FnExactPutWindow': WHATEVER THE INPUT: true; the input reads as it did. -/
def fnExactPutWindowSpec : ChangeSpec := { name := "fnExactPutWindow", fn := fun _ => fun
  | [d1, d2, d3] => { results := [.lit (.bool true)], args := [d1, d2, d3] }
  | _ => none }
def fnExactPutWindowRow : OpenClaim := { program := "ytmlnnnagbkknhaa", sum := "c7a0da64204e9ae08fdfcc6a858410424a8f35b1e9ac4f1ff18ee987aed7f4c0", func := "loop.example/g01347/laws.FnExactPutWindow", spec := "fnExactPutWindow", unfollowed := true, recurses := true, apart := false }
def FnExactPutWindowSaid : Prop := fnExactPutWindowRow.holds Try.pinned (OpenSpec.ofChange fnExactPutWindowSpec)

/-- ITS FALSE NEIGHBOUR: 'it returns false'. Refute it at one input. -/
def fnExactPutWindowWrong : ChangeSpec := { name := "fnExactPutWindow", fn := fun _ => fun
  | [d1, d2, d3] => { results := [.lit (.bool false)], args := [d1, d2, d3] }
  | _ => none }
def FnExactPutWindowWrongFalsely : Prop := fnExactPutWindowRow.holds Try.pinned (OpenSpec.ofChange fnExactPutWindowWrong)

/-- 'laws.FnExactCountExactly': WHATEVER THE INPUT: true; the input reads as it did. -/
def fnExactCountExactlySpec : ChangeSpec := { name := "fnExactCountExactly", fn := fun _ => fun
  | [d1, d2, d3, d4] => { results := [.lit (.bool true)], args := [d1, d2, d3, d4] }
  | _ => none }
def fnExactCountExactlyRow : OpenClaim := { program := "ytmlnnnagbkknhaa", sum := "c7a0da64204e9ae08fdfcc6a858410424a8f35b1e9ac4f1ff18ee987aed7f4c0", func := "loop.example/g01347/laws.FnExactCountExactly", spec := "fnExactCountExactly", apart := false }
def FnExactCountExactlySaid : Prop := fnExactCountExactlyRow.holds Try.pinned (OpenSpec.ofChange fnExactCountExactlySpec)

/-- ITS FALSE NEIGHBOUR: 'it returns false'. Refute it at one input. -/
def fnExactCountExactlyWrong : ChangeSpec := { name := "fnExactCountExactly", fn := fun _ => fun
  | [d1, d2, d3, d4] => { results := [.lit (.bool false)], args := [d1, d2, d3, d4] }
  | _ => none }
def FnExactCountExactlyWrongFalsely : Prop := fnExactCountExactlyRow.holds Try.pinned (OpenSpec.ofChange fnExactCountExactlyWrong)

/-- 'laws.FnExactTimeSample': WHATEVER THE INPUT: true; the input reads as it did. -/
def fnExactTimeSampleSpec : ChangeSpec := { name := "fnExactTimeSample", fn := fun _ => fun
  | [d1, d2, d3, d4, d5] => { results := [.lit (.bool true)], args := [d1, d2, d3, d4, d5] }
  | _ => none }
def fnExactTimeSampleRow : OpenClaim := { program := "ytmlnnnagbkknhaa", sum := "c7a0da64204e9ae08fdfcc6a858410424a8f35b1e9ac4f1ff18ee987aed7f4c0", func := "loop.example/g01347/laws.FnExactTimeSample", spec := "fnExactTimeSample", unfollowed := true, recurses := true, apart := false }
def FnExactTimeSampleSaid : Prop := fnExactTimeSampleRow.holds Try.pinned (OpenSpec.ofChange fnExactTimeSampleSpec)

/-- ITS FALSE NEIGHBOUR: 'it returns false'. Refute it at one input. -/
def fnExactTimeSampleWrong : ChangeSpec := { name := "fnExactTimeSample", fn := fun _ => fun
  | [d1, d2, d3, d4, d5] => { results := [.lit (.bool false)], args := [d1, d2, d3, d4, d5] }
  | _ => none }
def FnExactTimeSampleWrongFalsely : Prop := fnExactTimeSampleRow.holds Try.pinned (OpenSpec.ofChange fnExactTimeSampleWrong)

/-- 'laws.FnExactSampleStream': WHATEVER THE INPUT: true; the input reads as it did. -/
def fnExactSampleStreamSpec : ChangeSpec := { name := "fnExactSampleStream", fn := fun _ => fun
  | [d1, d2, d3] => { results := [.lit (.bool true)], args := [d1, d2, d3] }
  | _ => none }
def fnExactSampleStreamRow : OpenClaim := { program := "ytmlnnnagbkknhaa", sum := "c7a0da64204e9ae08fdfcc6a858410424a8f35b1e9ac4f1ff18ee987aed7f4c0", func := "loop.example/g01347/laws.FnExactSampleStream", spec := "fnExactSampleStream", unfollowed := true, recurses := true, apart := false }
def FnExactSampleStreamSaid : Prop := fnExactSampleStreamRow.holds Try.pinned (OpenSpec.ofChange fnExactSampleStreamSpec)

/-- ITS FALSE NEIGHBOUR: 'it returns false'. Refute it at one input. -/
def fnExactSampleStreamWrong : ChangeSpec := { name := "fnExactSampleStream", fn := fun _ => fun
  | [d1, d2, d3] => { results := [.lit (.bool false)], args := [d1, d2, d3] }
  | _ => none }
def FnExactSampleStreamWrongFalsely : Prop := fnExactSampleStreamRow.holds Try.pinned (OpenSpec.ofChange fnExactSampleStreamWrong)

/-- 'laws.FnExactSampleSeen': WHATEVER THE INPUT: true; the input reads as it did. -/
def fnExactSampleSeenSpec : ChangeSpec := { name := "fnExactSampleSeen", fn := fun _ => fun
  | [d1, d2] => { results := [.lit (.bool true)], args := [d1, d2] }
  | _ => none }
def fnExactSampleSeenRow : OpenClaim := { program := "ytmlnnnagbkknhaa", sum := "c7a0da64204e9ae08fdfcc6a858410424a8f35b1e9ac4f1ff18ee987aed7f4c0", func := "loop.example/g01347/laws.FnExactSampleSeen", spec := "fnExactSampleSeen", unfollowed := true, recurses := true, apart := false }
def FnExactSampleSeenSaid : Prop := fnExactSampleSeenRow.holds Try.pinned (OpenSpec.ofChange fnExactSampleSeenSpec)

/-- ITS FALSE NEIGHBOUR: 'it returns false'. Refute it at one input. -/
def fnExactSampleSeenWrong : ChangeSpec := { name := "fnExactSampleSeen", fn := fun _ => fun
  | [d1, d2] => { results := [.lit (.bool false)], args := [d1, d2] }
  | _ => none }
def FnExactSampleSeenWrongFalsely : Prop := fnExactSampleSeenRow.holds Try.pinned (OpenSpec.ofChange fnExactSampleSeenWrong)

/- THE SECOND FORM. 'bulk': how many values and letters a reading holds, each counted each time it is reached (what is shared counts as often as it is met; a slice's spare places count too). A statement '..UptoSaid' is the law's where the arguments, and the package variables that the reading takes, are together of bulk at most 1048576: NARROWER than '..Said'. Prove '..Said' where nothing that the law and all that it calls make is longer than what came in: it says more and counts as full. Else prove '..UptoSaid'. A law counts once. -/
mutual
def uptoBulk {H : Type} : DataW H → Nat
  | .lit (.string bytes) => bytes.length + 1
  | .lit _ => 1
  | .nil => 1
  | .ptr d => uptoBulk d + 1
  | .slice elems spare => uptoBulkAll elems + uptoBulkAll spare + 1
  | .agg parts => uptoBulkAll parts + 1
  | .iface _ d => uptoBulk d + 1
  | .map entries => uptoBulkEntries entries + 1
  | .held _ => 1
def uptoBulkAll {H : Type} : List (DataW H) → Nat
  | [] => 0
  | d :: r => uptoBulk d + uptoBulkAll r
def uptoBulkEntries {H : Type} : List (Lit × DataW H) → Nat
  | [] => 0
  | x :: r => uptoBulkEntry x + uptoBulkEntries r
def uptoBulkEntry {H : Type} : Lit × DataW H → Nat
  | (.string bytes, d) => bytes.length + uptoBulk d + 1
  | (_, d) => uptoBulk d + 1
 end
def uptoSmall : (H : Type) → List (DataW H) → Bool := fun _ ds => decide (uptoBulkAll ds ≤ 1048576)
def OpenSpec.upto (s : _root_.Go.ChangeSpec) : _root_.Go.OpenSpec := { _root_.Go.OpenSpec.ofChange s with cond := some uptoSmall }

/-- 'laws.FnExactValidWindow', WHERE WHAT IT READS IS OF BULK AT MOST 1048576: true; the input reads as it did. -/
def fnExactValidWindowUptoRow : OpenClaim := { program := "ytmlnnnagbkknhaa", sum := "c7a0da64204e9ae08fdfcc6a858410424a8f35b1e9ac4f1ff18ee987aed7f4c0", func := "loop.example/g01347/laws.FnExactValidWindow", spec := "fnExactValidWindow", apart := false, narrowed := true }
def FnExactValidWindowUptoSaid : Prop := fnExactValidWindowUptoRow.holds Try.pinned (OpenSpec.upto fnExactValidWindowSpec)

/-- 'laws.FnExactSameWindow', WHERE WHAT IT READS IS OF BULK AT MOST 1048576: true; the input reads as it did. -/
def fnExactSameWindowUptoRow : OpenClaim := { program := "ytmlnnnagbkknhaa", sum := "c7a0da64204e9ae08fdfcc6a858410424a8f35b1e9ac4f1ff18ee987aed7f4c0", func := "loop.example/g01347/laws.FnExactSameWindow", spec := "fnExactSameWindow", apart := false, narrowed := true }
def FnExactSameWindowUptoSaid : Prop := fnExactSameWindowUptoRow.holds Try.pinned (OpenSpec.upto fnExactSameWindowSpec)

/-- 'laws.FnExactNewWindow', WHERE WHAT IT READS IS OF BULK AT MOST 1048576: true; the input reads as it did. -/
def fnExactNewWindowUptoRow : OpenClaim := { program := "ytmlnnnagbkknhaa", sum := "c7a0da64204e9ae08fdfcc6a858410424a8f35b1e9ac4f1ff18ee987aed7f4c0", func := "loop.example/g01347/laws.FnExactNewWindow", spec := "fnExactNewWindow", apart := false, narrowed := true }
def FnExactNewWindowUptoSaid : Prop := fnExactNewWindowUptoRow.holds Try.pinned (OpenSpec.upto fnExactNewWindowSpec)

/-- 'laws.FnExactCountWindow', WHERE WHAT IT READS IS OF BULK AT MOST 1048576: true; the input reads as it did. -/
def fnExactCountWindowUptoRow : OpenClaim := { program := "ytmlnnnagbkknhaa", sum := "c7a0da64204e9ae08fdfcc6a858410424a8f35b1e9ac4f1ff18ee987aed7f4c0", func := "loop.example/g01347/laws.FnExactCountWindow", spec := "fnExactCountWindow", unfollowed := true, recurses := true, apart := false, narrowed := true }
def FnExactCountWindowUptoSaid : Prop := fnExactCountWindowUptoRow.holds Try.pinned (OpenSpec.upto fnExactCountWindowSpec)

/-- 'laws.FnExactBoundsOfWindow', WHERE WHAT IT READS IS OF BULK AT MOST 1048576: true; the input reads as it did. -/
def fnExactBoundsOfWindowUptoRow : OpenClaim := { program := "ytmlnnnagbkknhaa", sum := "c7a0da64204e9ae08fdfcc6a858410424a8f35b1e9ac4f1ff18ee987aed7f4c0", func := "loop.example/g01347/laws.FnExactBoundsOfWindow", spec := "fnExactBoundsOfWindow", unfollowed := true, recurses := true, apart := false, narrowed := true }
def FnExactBoundsOfWindowUptoSaid : Prop := fnExactBoundsOfWindowUptoRow.holds Try.pinned (OpenSpec.upto fnExactBoundsOfWindowSpec)

/-- 'laws.FnExactPutWindow', WHERE WHAT IT READS IS OF BULK AT MOST 1048576: true; the input reads as it did. -/
def fnExactPutWindowUptoRow : OpenClaim := { program := "ytmlnnnagbkknhaa", sum := "c7a0da64204e9ae08fdfcc6a858410424a8f35b1e9ac4f1ff18ee987aed7f4c0", func := "loop.example/g01347/laws.FnExactPutWindow", spec := "fnExactPutWindow", unfollowed := true, recurses := true, apart := false, narrowed := true }
def FnExactPutWindowUptoSaid : Prop := fnExactPutWindowUptoRow.holds Try.pinned (OpenSpec.upto fnExactPutWindowSpec)

/-- 'laws.FnExactCountExactly', WHERE WHAT IT READS IS OF BULK AT MOST 1048576: true; the input reads as it did. -/
def fnExactCountExactlyUptoRow : OpenClaim := { program := "ytmlnnnagbkknhaa", sum := "c7a0da64204e9ae08fdfcc6a858410424a8f35b1e9ac4f1ff18ee987aed7f4c0", func := "loop.example/g01347/laws.FnExactCountExactly", spec := "fnExactCountExactly", apart := false, narrowed := true }
def FnExactCountExactlyUptoSaid : Prop := fnExactCountExactlyUptoRow.holds Try.pinned (OpenSpec.upto fnExactCountExactlySpec)

/-- 'laws.FnExactTimeSample', WHERE WHAT IT READS IS OF BULK AT MOST 1048576: true; the input reads as it did. -/
def fnExactTimeSampleUptoRow : OpenClaim := { program := "ytmlnnnagbkknhaa", sum := "c7a0da64204e9ae08fdfcc6a858410424a8f35b1e9ac4f1ff18ee987aed7f4c0", func := "loop.example/g01347/laws.FnExactTimeSample", spec := "fnExactTimeSample", unfollowed := true, recurses := true, apart := false, narrowed := true }
def FnExactTimeSampleUptoSaid : Prop := fnExactTimeSampleUptoRow.holds Try.pinned (OpenSpec.upto fnExactTimeSampleSpec)

/-- 'laws.FnExactSampleStream', WHERE WHAT IT READS IS OF BULK AT MOST 1048576: true; the input reads as it did. -/
def fnExactSampleStreamUptoRow : OpenClaim := { program := "ytmlnnnagbkknhaa", sum := "c7a0da64204e9ae08fdfcc6a858410424a8f35b1e9ac4f1ff18ee987aed7f4c0", func := "loop.example/g01347/laws.FnExactSampleStream", spec := "fnExactSampleStream", unfollowed := true, recurses := true, apart := false, narrowed := true }
def FnExactSampleStreamUptoSaid : Prop := fnExactSampleStreamUptoRow.holds Try.pinned (OpenSpec.upto fnExactSampleStreamSpec)

/-- 'laws.FnExactSampleSeen', WHERE WHAT IT READS IS OF BULK AT MOST 1048576: true; the input reads as it did. -/
def fnExactSampleSeenUptoRow : OpenClaim := { program := "ytmlnnnagbkknhaa", sum := "c7a0da64204e9ae08fdfcc6a858410424a8f35b1e9ac4f1ff18ee987aed7f4c0", func := "loop.example/g01347/laws.FnExactSampleSeen", spec := "fnExactSampleSeen", unfollowed := true, recurses := true, apart := false, narrowed := true }
def FnExactSampleSeenUptoSaid : Prop := fnExactSampleSeenUptoRow.holds Try.pinned (OpenSpec.upto fnExactSampleSeenSpec)

end Rows
end Go.Proofs.Ytmlnnnagbkknhaa
