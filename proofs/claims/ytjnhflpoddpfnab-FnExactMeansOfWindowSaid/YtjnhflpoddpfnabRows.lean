/-
  No cell of these rows narrows 'for every input' (looked for: loops, veiled, ifaces, maps, wideKeys, modest, calm, conditions, laid).
  DERIVED. THE GIVEN ROWS OF THIS SEAT. 10 by the template 'for every input the law returns true; each argument reads behind the call as it read before'; 0 by the template 'total and deterministic' (their statements: YtjnhflpoddpfnabTotals.lean).
  GIVEN WITH THE SEED: the statements are not yours to turn. If you find one false, say at which input.
  Laid BY PROGRAM, IN A SANDBOX (cutbox-rows.mjs): the forced cells as the released guide's own fill.sh prints them over the translation 8344dfa45f33042d… (all of the seat's roots in one cut). By AI agents, Wed Nov 11 2026. No macro, syntax, notation, axiom, sorry.
-/
import Derived.Test.YtjnhflpoddpfnabChecked
import GoSem.Claim
import GoSem.ClaimJoined
import GoSem.ClaimMapViews
import Derived.JoinedTies
import Derived.KernelRfl
namespace Go.Proofs.Ytjnhflpoddpfnab
/- THE CELL 'sum', in the pinned program and in every row, IS THE sha256 OF THE DUMP (.gsa) THAT YtjnhflpoddpfnabProg.lean LOADS. Nothing in Lean hashes anything: it is a label: what it is worth is what the hold of that sum in a sandbox is worth. -/
noncomputable def Try.pinned : Pinned := { name := "ytjnhflpoddpfnab", sum := "8344dfa45f33042dc8a3d56b3a51304d87d72cbeed1787e1fdaa136b86e87f0f", checked := Try.checked }
namespace Rows
def none {H : Type} : Left H := { results := [], args := [] }

/-- 'laws.FnExactLeastOfWindow': WHATEVER THE INPUT: true; the input reads as it did. -/
def fnExactLeastOfWindowSpec : ChangeSpec := { name := "fnExactLeastOfWindow", fn := fun _ => fun
  | [d1, d2] => { results := [.lit (.bool true)], args := [d1, d2] }
  | _ => none }
def fnExactLeastOfWindowRow : OpenClaim := { program := "ytjnhflpoddpfnab", sum := "8344dfa45f33042dc8a3d56b3a51304d87d72cbeed1787e1fdaa136b86e87f0f", func := "loop.example/g01347/laws.FnExactLeastOfWindow", spec := "fnExactLeastOfWindow", unfollowed := true, recurses := true, apart := false }
def FnExactLeastOfWindowSaid : Prop := fnExactLeastOfWindowRow.holds Try.pinned (OpenSpec.ofChange fnExactLeastOfWindowSpec)

/-- ITS FALSE NEIGHBOUR: 'it returns false'. Refute it at one input. -/
def fnExactLeastOfWindowWrong : ChangeSpec := { name := "fnExactLeastOfWindow", fn := fun _ => fun
  | [d1, d2] => { results := [.lit (.bool false)], args := [d1, d2] }
  | _ => none }
def FnExactLeastOfWindowWrongFalsely : Prop := fnExactLeastOfWindowRow.holds Try.pinned (OpenSpec.ofChange fnExactLeastOfWindowWrong)

/-- 'laws.FnExactGreatestOfWindow': WHATEVER THE INPUT: true; the input reads as it did. -/
def fnExactGreatestOfWindowSpec : ChangeSpec := { name := "fnExactGreatestOfWindow", fn := fun _ => fun
  | [d1, d2] => { results := [.lit (.bool true)], args := [d1, d2] }
  | _ => none }
def fnExactGreatestOfWindowRow : OpenClaim := { program := "ytjnhflpoddpfnab", sum := "8344dfa45f33042dc8a3d56b3a51304d87d72cbeed1787e1fdaa136b86e87f0f", func := "loop.example/g01347/laws.FnExactGreatestOfWindow", spec := "fnExactGreatestOfWindow", unfollowed := true, recurses := true, apart := false }
def FnExactGreatestOfWindowSaid : Prop := fnExactGreatestOfWindowRow.holds Try.pinned (OpenSpec.ofChange fnExactGreatestOfWindowSpec)

/-- ITS FALSE NEIGHBOUR: 'it returns false'. Refute it at one input. -/
def fnExactGreatestOfWindowWrong : ChangeSpec := { name := "fnExactGreatestOfWindow", fn := fun _ => fun
  | [d1, d2] => { results := [.lit (.bool false)], args := [d1, d2] }
  | _ => none }
def FnExactGreatestOfWindowWrongFalsely : Prop := fnExactGreatestOfWindowRow.holds Try.pinned (OpenSpec.ofChange fnExactGreatestOfWindowWrong)

/-- 'laws.FnExactMiddleOfWindow': WHATEVER THE INPUT: true; the input reads as it did. -/
def fnExactMiddleOfWindowSpec : ChangeSpec := { name := "fnExactMiddleOfWindow", fn := fun _ => fun
  | [d1, d2] => { results := [.lit (.bool true)], args := [d1, d2] }
  | _ => none }
def fnExactMiddleOfWindowRow : OpenClaim := { program := "ytjnhflpoddpfnab", sum := "8344dfa45f33042dc8a3d56b3a51304d87d72cbeed1787e1fdaa136b86e87f0f", func := "loop.example/g01347/laws.FnExactMiddleOfWindow", spec := "fnExactMiddleOfWindow", unfollowed := true, recurses := true, apart := false }
def FnExactMiddleOfWindowSaid : Prop := fnExactMiddleOfWindowRow.holds Try.pinned (OpenSpec.ofChange fnExactMiddleOfWindowSpec)

/-- ITS FALSE NEIGHBOUR: 'it returns false'. Refute it at one input. -/
def fnExactMiddleOfWindowWrong : ChangeSpec := { name := "fnExactMiddleOfWindow", fn := fun _ => fun
  | [d1, d2] => { results := [.lit (.bool false)], args := [d1, d2] }
  | _ => none }
def FnExactMiddleOfWindowWrongFalsely : Prop := fnExactMiddleOfWindowRow.holds Try.pinned (OpenSpec.ofChange fnExactMiddleOfWindowWrong)

/-- 'laws.FnExactMeansOfWindow': WHATEVER THE INPUT: true; the input reads as it did. -/
def fnExactMeansOfWindowSpec : ChangeSpec := { name := "fnExactMeansOfWindow", fn := fun _ => fun
  | [d1, d2] => { results := [.lit (.bool true)], args := [d1, d2] }
  | _ => none }
def fnExactMeansOfWindowRow : OpenClaim := { program := "ytjnhflpoddpfnab", sum := "8344dfa45f33042dc8a3d56b3a51304d87d72cbeed1787e1fdaa136b86e87f0f", func := "loop.example/g01347/laws.FnExactMeansOfWindow", spec := "fnExactMeansOfWindow", inPlace := ["math.Float64bits", "math.Float64frombits"], unfollowed := true, recurses := true, apart := false }
def FnExactMeansOfWindowSaid : Prop := fnExactMeansOfWindowRow.holds Try.pinned (OpenSpec.ofChange fnExactMeansOfWindowSpec)

/-- ITS FALSE NEIGHBOUR: 'it returns false'. Refute it at one input. -/
def fnExactMeansOfWindowWrong : ChangeSpec := { name := "fnExactMeansOfWindow", fn := fun _ => fun
  | [d1, d2] => { results := [.lit (.bool false)], args := [d1, d2] }
  | _ => none }
def FnExactMeansOfWindowWrongFalsely : Prop := fnExactMeansOfWindowRow.holds Try.pinned (OpenSpec.ofChange fnExactMeansOfWindowWrong)

/-- 'laws.FnExactOftenInWindow': WHATEVER THE INPUT: true; the input reads as it did. -/
def fnExactOftenInWindowSpec : ChangeSpec := { name := "fnExactOftenInWindow", fn := fun _ => fun
  | [d1, d2] => { results := [.lit (.bool true)], args := [d1, d2] }
  | _ => none }
def fnExactOftenInWindowRow : OpenClaim := { program := "ytjnhflpoddpfnab", sum := "8344dfa45f33042dc8a3d56b3a51304d87d72cbeed1787e1fdaa136b86e87f0f", func := "loop.example/g01347/laws.FnExactOftenInWindow", spec := "fnExactOftenInWindow", unfollowed := true, recurses := true, apart := false }
def FnExactOftenInWindowSaid : Prop := fnExactOftenInWindowRow.holds Try.pinned (OpenSpec.ofChange fnExactOftenInWindowSpec)

/-- ITS FALSE NEIGHBOUR: 'it returns false'. Refute it at one input. -/
def fnExactOftenInWindowWrong : ChangeSpec := { name := "fnExactOftenInWindow", fn := fun _ => fun
  | [d1, d2] => { results := [.lit (.bool false)], args := [d1, d2] }
  | _ => none }
def FnExactOftenInWindowWrongFalsely : Prop := fnExactOftenInWindowRow.holds Try.pinned (OpenSpec.ofChange fnExactOftenInWindowWrong)

/-- 'laws.FnExactSampleSeen': WHATEVER THE INPUT: true; the input reads as it did. -/
def fnExactSampleSeenSpec : ChangeSpec := { name := "fnExactSampleSeen", fn := fun _ => fun
  | [d1, d2] => { results := [.lit (.bool true)], args := [d1, d2] }
  | _ => none }
def fnExactSampleSeenRow : OpenClaim := { program := "ytjnhflpoddpfnab", sum := "8344dfa45f33042dc8a3d56b3a51304d87d72cbeed1787e1fdaa136b86e87f0f", func := "loop.example/g01347/laws.FnExactSampleSeen", spec := "fnExactSampleSeen", unfollowed := true, recurses := true, apart := false }
def FnExactSampleSeenSaid : Prop := fnExactSampleSeenRow.holds Try.pinned (OpenSpec.ofChange fnExactSampleSeenSpec)

/-- ITS FALSE NEIGHBOUR: 'it returns false'. Refute it at one input. -/
def fnExactSampleSeenWrong : ChangeSpec := { name := "fnExactSampleSeen", fn := fun _ => fun
  | [d1, d2] => { results := [.lit (.bool false)], args := [d1, d2] }
  | _ => none }
def FnExactSampleSeenWrongFalsely : Prop := fnExactSampleSeenRow.holds Try.pinned (OpenSpec.ofChange fnExactSampleSeenWrong)

/-- 'laws.FnExactSampleStream': WHATEVER THE INPUT: true; the input reads as it did. -/
def fnExactSampleStreamSpec : ChangeSpec := { name := "fnExactSampleStream", fn := fun _ => fun
  | [d1, d2, d3] => { results := [.lit (.bool true)], args := [d1, d2, d3] }
  | _ => none }
def fnExactSampleStreamRow : OpenClaim := { program := "ytjnhflpoddpfnab", sum := "8344dfa45f33042dc8a3d56b3a51304d87d72cbeed1787e1fdaa136b86e87f0f", func := "loop.example/g01347/laws.FnExactSampleStream", spec := "fnExactSampleStream", unfollowed := true, recurses := true, apart := false }
def FnExactSampleStreamSaid : Prop := fnExactSampleStreamRow.holds Try.pinned (OpenSpec.ofChange fnExactSampleStreamSpec)

/-- ITS FALSE NEIGHBOUR: 'it returns false'. Refute it at one input. -/
def fnExactSampleStreamWrong : ChangeSpec := { name := "fnExactSampleStream", fn := fun _ => fun
  | [d1, d2, d3] => { results := [.lit (.bool false)], args := [d1, d2, d3] }
  | _ => none }
def FnExactSampleStreamWrongFalsely : Prop := fnExactSampleStreamRow.holds Try.pinned (OpenSpec.ofChange fnExactSampleStreamWrong)

/-- 'laws.FnExactLeastHashes': WHATEVER THE INPUT: true; the input reads as it did. -/
def fnExactLeastHashesSpec : ChangeSpec := { name := "fnExactLeastHashes", fn := fun _ => fun
  | [d1, d2, d3] => { results := [.lit (.bool true)], args := [d1, d2, d3] }
  | _ => none }
def fnExactLeastHashesRow : OpenClaim := { program := "ytjnhflpoddpfnab", sum := "8344dfa45f33042dc8a3d56b3a51304d87d72cbeed1787e1fdaa136b86e87f0f", func := "loop.example/g01347/laws.FnExactLeastHashes", spec := "fnExactLeastHashes", recurses := true, apart := false }
def FnExactLeastHashesSaid : Prop := fnExactLeastHashesRow.holds Try.pinned (OpenSpec.ofChange fnExactLeastHashesSpec)

/-- ITS FALSE NEIGHBOUR: 'it returns false'. Refute it at one input. -/
def fnExactLeastHashesWrong : ChangeSpec := { name := "fnExactLeastHashes", fn := fun _ => fun
  | [d1, d2, d3] => { results := [.lit (.bool false)], args := [d1, d2, d3] }
  | _ => none }
def FnExactLeastHashesWrongFalsely : Prop := fnExactLeastHashesRow.holds Try.pinned (OpenSpec.ofChange fnExactLeastHashesWrong)

/-- 'laws.FnExactJoinLeast': WHATEVER THE INPUT: true; the input reads as it did. -/
def fnExactJoinLeastSpec : ChangeSpec := { name := "fnExactJoinLeast", fn := fun _ => fun
  | [d1, d2, d3] => { results := [.lit (.bool true)], args := [d1, d2, d3] }
  | _ => none }
def fnExactJoinLeastRow : OpenClaim := { program := "ytjnhflpoddpfnab", sum := "8344dfa45f33042dc8a3d56b3a51304d87d72cbeed1787e1fdaa136b86e87f0f", func := "loop.example/g01347/laws.FnExactJoinLeast", spec := "fnExactJoinLeast", recurses := true, apart := false }
def FnExactJoinLeastSaid : Prop := fnExactJoinLeastRow.holds Try.pinned (OpenSpec.ofChange fnExactJoinLeastSpec)

/-- ITS FALSE NEIGHBOUR: 'it returns false'. Refute it at one input. -/
def fnExactJoinLeastWrong : ChangeSpec := { name := "fnExactJoinLeast", fn := fun _ => fun
  | [d1, d2, d3] => { results := [.lit (.bool false)], args := [d1, d2, d3] }
  | _ => none }
def FnExactJoinLeastWrongFalsely : Prop := fnExactJoinLeastRow.holds Try.pinned (OpenSpec.ofChange fnExactJoinLeastWrong)

/-- 'laws.FnExactMeetOfLeast': WHATEVER THE INPUT: true; the input reads as it did. -/
def fnExactMeetOfLeastSpec : ChangeSpec := { name := "fnExactMeetOfLeast", fn := fun _ => fun
  | [d1, d2, d3] => { results := [.lit (.bool true)], args := [d1, d2, d3] }
  | _ => none }
def fnExactMeetOfLeastRow : OpenClaim := { program := "ytjnhflpoddpfnab", sum := "8344dfa45f33042dc8a3d56b3a51304d87d72cbeed1787e1fdaa136b86e87f0f", func := "loop.example/g01347/laws.FnExactMeetOfLeast", spec := "fnExactMeetOfLeast", recurses := true, apart := false }
def FnExactMeetOfLeastSaid : Prop := fnExactMeetOfLeastRow.holds Try.pinned (OpenSpec.ofChange fnExactMeetOfLeastSpec)

/-- ITS FALSE NEIGHBOUR: 'it returns false'. Refute it at one input. -/
def fnExactMeetOfLeastWrong : ChangeSpec := { name := "fnExactMeetOfLeast", fn := fun _ => fun
  | [d1, d2, d3] => { results := [.lit (.bool false)], args := [d1, d2, d3] }
  | _ => none }
def FnExactMeetOfLeastWrongFalsely : Prop := fnExactMeetOfLeastRow.holds Try.pinned (OpenSpec.ofChange fnExactMeetOfLeastWrong)

/- THE SECOND FORM. 'bulk': how many values and letters a reading holds, each counted each time it is reached (what is shared counts as often as it is met; a slice's spare places count too). A statement '..UptoSaid' is the law's where the arguments, and the package variables that the reading takes, are together of bulk at most 1048576: NARROWER than '..Said'. Prove '..Said' where nothing that the law and all that it calls make is longer than what came in: it says more and counts as full. Else prove '..UptoSaid'. A law counts once. -/
mutual
def uptoBulk {H : Type} : DataW H → Nat
  | .lit (.string bytes) => bytes.length + 1
  | .lit _ => 1
  | .nil => 1
  | .ptr d => uptoBulk d + 1
  | .slice elems spare => uptoBulkAll elems + uptoBulkAll spare + 1
  | .agg parts => uptoBulkAll parts + 1
  | .iface _ d => uptoBulk d + 1
  | .map entries => uptoBulkEntries entries + 1
  | .held _ => 1
def uptoBulkAll {H : Type} : List (DataW H) → Nat
  | [] => 0
  | d :: r => uptoBulk d + uptoBulkAll r
def uptoBulkEntries {H : Type} : List (Lit × DataW H) → Nat
  | [] => 0
  | x :: r => uptoBulkEntry x + uptoBulkEntries r
def uptoBulkEntry {H : Type} : Lit × DataW H → Nat
  | (.string bytes, d) => bytes.length + uptoBulk d + 1
  | (_, d) => uptoBulk d + 1
 end
def uptoSmall : (H : Type) → List (DataW H) → Bool := fun _ ds => decide (uptoBulkAll ds ≤ 1048576)
def OpenSpec.upto (s : _root_.Go.ChangeSpec) : _root_.Go.OpenSpec := { _root_.Go.OpenSpec.ofChange s with cond := some uptoSmall }

/-- 'laws.FnExactLeastOfWindow', WHERE WHAT IT READS IS OF BULK AT MOST 1048576: true; the input reads as it did. -/
def fnExactLeastOfWindowUptoRow : OpenClaim := { program := "ytjnhflpoddpfnab", sum := "8344dfa45f33042dc8a3d56b3a51304d87d72cbeed1787e1fdaa136b86e87f0f", func := "loop.example/g01347/laws.FnExactLeastOfWindow", spec := "fnExactLeastOfWindow", unfollowed := true, recurses := true, apart := false, narrowed := true }
def FnExactLeastOfWindowUptoSaid : Prop := fnExactLeastOfWindowUptoRow.holds Try.pinned (OpenSpec.upto fnExactLeastOfWindowSpec)

/-- 'laws.FnExactGreatestOfWindow', WHERE WHAT IT READS IS OF BULK AT MOST 1048576: true; the input reads as it did. -/
def fnExactGreatestOfWindowUptoRow : OpenClaim := { program := "ytjnhflpoddpfnab", sum := "8344dfa45f33042dc8a3d56b3a51304d87d72cbeed1787e1fdaa136b86e87f0f", func := "loop.example/g01347/laws.FnExactGreatestOfWindow", spec := "fnExactGreatestOfWindow", unfollowed := true, recurses := true, apart := false, narrowed := true }
def FnExactGreatestOfWindowUptoSaid : Prop := fnExactGreatestOfWindowUptoRow.holds Try.pinned (OpenSpec.upto fnExactGreatestOfWindowSpec)

/-- 'laws.FnExactMiddleOfWindow', WHERE WHAT IT READS IS OF BULK AT MOST 1048576: true; the input reads as it did. -/
def fnExactMiddleOfWindowUptoRow : OpenClaim := { program := "ytjnhflpoddpfnab", sum := "8344dfa45f33042dc8a3d56b3a51304d87d72cbeed1787e1fdaa136b86e87f0f", func := "loop.example/g01347/laws.FnExactMiddleOfWindow", spec := "fnExactMiddleOfWindow", unfollowed := true, recurses := true, apart := false, narrowed := true }
def FnExactMiddleOfWindowUptoSaid : Prop := fnExactMiddleOfWindowUptoRow.holds Try.pinned (OpenSpec.upto fnExactMiddleOfWindowSpec)

/-- 'laws.FnExactMeansOfWindow', WHERE WHAT IT READS IS OF BULK AT MOST 1048576: true; the input reads as it did. -/
def fnExactMeansOfWindowUptoRow : OpenClaim := { program := "ytjnhflpoddpfnab", sum := "8344dfa45f33042dc8a3d56b3a51304d87d72cbeed1787e1fdaa136b86e87f0f", func := "loop.example/g01347/laws.FnExactMeansOfWindow", spec := "fnExactMeansOfWindow", inPlace := ["math.Float64bits", "math.Float64frombits"], unfollowed := true, recurses := true, apart := false, narrowed := true }
def FnExactMeansOfWindowUptoSaid : Prop := fnExactMeansOfWindowUptoRow.holds Try.pinned (OpenSpec.upto fnExactMeansOfWindowSpec)

/-- 'laws.FnExactOftenInWindow', WHERE WHAT IT READS IS OF BULK AT MOST 1048576: true; the input reads as it did. -/
def fnExactOftenInWindowUptoRow : OpenClaim := { program := "ytjnhflpoddpfnab", sum := "8344dfa45f33042dc8a3d56b3a51304d87d72cbeed1787e1fdaa136b86e87f0f", func := "loop.example/g01347/laws.FnExactOftenInWindow", spec := "fnExactOftenInWindow", unfollowed := true, recurses := true, apart := false, narrowed := true }
def FnExactOftenInWindowUptoSaid : Prop := fnExactOftenInWindowUptoRow.holds Try.pinned (OpenSpec.upto fnExactOftenInWindowSpec)

/-- 'laws.FnExactSampleSeen', WHERE WHAT IT READS IS OF BULK AT MOST 1048576: true; the input reads as it did. -/
def fnExactSampleSeenUptoRow : OpenClaim := { program := "ytjnhflpoddpfnab", sum := "8344dfa45f33042dc8a3d56b3a51304d87d72cbeed1787e1fdaa136b86e87f0f", func := "loop.example/g01347/laws.FnExactSampleSeen", spec := "fnExactSampleSeen", unfollowed := true, recurses := true, apart := false, narrowed := true }
def FnExactSampleSeenUptoSaid : Prop := fnExactSampleSeenUptoRow.holds Try.pinned (OpenSpec.upto fnExactSampleSeenSpec)

/-- 'laws.FnExactSampleStream', WHERE WHAT IT READS IS OF BULK AT MOST 1048576: true; the input reads as it did. -/
def fnExactSampleStreamUptoRow : OpenClaim := { program := "ytjnhflpoddpfnab", sum := "8344dfa45f33042dc8a3d56b3a51304d87d72cbeed1787e1fdaa136b86e87f0f", func := "loop.example/g01347/laws.FnExactSampleStream", spec := "fnExactSampleStream", unfollowed := true, recurses := true, apart := false, narrowed := true }
def FnExactSampleStreamUptoSaid : Prop := fnExactSampleStreamUptoRow.holds Try.pinned (OpenSpec.upto fnExactSampleStreamSpec)

/-- 'laws.FnExactLeastHashes', WHERE WHAT IT READS IS OF BULK AT MOST 1048576: true; the input reads as it did. -/
def fnExactLeastHashesUptoRow : OpenClaim := { program := "ytjnhflpoddpfnab", sum := "8344dfa45f33042dc8a3d56b3a51304d87d72cbeed1787e1fdaa136b86e87f0f", func := "loop.example/g01347/laws.FnExactLeastHashes", spec := "fnExactLeastHashes", recurses := true, apart := false, narrowed := true }
def FnExactLeastHashesUptoSaid : Prop := fnExactLeastHashesUptoRow.holds Try.pinned (OpenSpec.upto fnExactLeastHashesSpec)

/-- 'laws.FnExactJoinLeast', WHERE WHAT IT READS IS OF BULK AT MOST 1048576: true; the input reads as it did. -/
def fnExactJoinLeastUptoRow : OpenClaim := { program := "ytjnhflpoddpfnab", sum := "8344dfa45f33042dc8a3d56b3a51304d87d72cbeed1787e1fdaa136b86e87f0f", func := "loop.example/g01347/laws.FnExactJoinLeast", spec := "fnExactJoinLeast", recurses := true, apart := false, narrowed := true }
def FnExactJoinLeastUptoSaid : Prop := fnExactJoinLeastUptoRow.holds Try.pinned (OpenSpec.upto fnExactJoinLeastSpec)

/-- 'laws.FnExactMeetOfLeast', WHERE WHAT IT READS IS OF BULK AT MOST 1048576: true; the input reads as it did. -/
def fnExactMeetOfLeastUptoRow : OpenClaim := { program := "ytjnhflpoddpfnab", sum := "8344dfa45f33042dc8a3d56b3a51304d87d72cbeed1787e1fdaa136b86e87f0f", func := "loop.example/g01347/laws.FnExactMeetOfLeast", spec := "fnExactMeetOfLeast", recurses := true, apart := false, narrowed := true }
def FnExactMeetOfLeastUptoSaid : Prop := fnExactMeetOfLeastUptoRow.holds Try.pinned (OpenSpec.upto fnExactMeetOfLeastSpec)

end Rows
end Go.Proofs.Ytjnhflpoddpfnab
