/-
  No cell of these rows narrows 'for every input' (looked for: loops, veiled, ifaces, maps, wideKeys, modest, calm, conditions, laid).
  DERIVED. THE GIVEN ROWS OF THIS SEAT. 12 by the template 'for every input the law returns true; each argument reads behind the call as it read before'; 0 by the template 'total and deterministic' (their statements: YtfolflkbpdbkcaaTotals.lean).
  GIVEN WITH THE SEED: the statements are not yours to turn. If you find one false, say at which input.
  Laid BY PROGRAM, IN A SANDBOX (cutbox-rows.mjs): the forced cells as the released guide's own fill.sh prints them over the translation be433eb7c8768532… (all of the seat's roots in one cut). By AI agents, Wed Nov 11 2026. No macro, syntax, notation, axiom, sorry.
-/
import Derived.Test.YtfolflkbpdbkcaaChecked
import GoSem.Claim
import GoSem.ClaimJoined
import GoSem.ClaimMapViews
import Derived.JoinedTies
import Derived.KernelRfl
namespace Go.Proofs.Ytfolflkbpdbkcaa
/- THE CELL 'sum', in the pinned program and in every row, IS THE sha256 OF THE DUMP (.gsa) THAT YtfolflkbpdbkcaaProg.lean LOADS. Nothing in Lean hashes anything: it is a label: what it is worth is what the hold of that sum in a sandbox is worth. -/
noncomputable def Try.pinned : Pinned := { name := "ytfolflkbpdbkcaa", sum := "be433eb7c87685323c84d84b55cf3ffd93edf133ac9df6ec4c9c1b6d1685ade8", checked := Try.checked }
namespace Rows
def none {H : Type} : Left H := { results := [], args := [] }

/-- 'laws.FnExactValidSieve': WHATEVER THE INPUT: true; the input reads as it did. -/
def fnExactValidSieveSpec : ChangeSpec := { name := "fnExactValidSieve", fn := fun _ => fun
  | [d] => { results := [.lit (.bool true)], args := [d] }
  | _ => none }
def fnExactValidSieveRow : OpenClaim := { program := "ytfolflkbpdbkcaa", sum := "be433eb7c87685323c84d84b55cf3ffd93edf133ac9df6ec4c9c1b6d1685ade8", func := "loop.example/g01347/laws.FnExactValidSieve", spec := "fnExactValidSieve", apart := false }
def FnExactValidSieveSaid : Prop := fnExactValidSieveRow.holds Try.pinned (OpenSpec.ofChange fnExactValidSieveSpec)

/-- ITS FALSE NEIGHBOUR: 'it returns false'. Refute it at one input. -/
def fnExactValidSieveWrong : ChangeSpec := { name := "fnExactValidSieve", fn := fun _ => fun
  | [d] => { results := [.lit (.bool false)], args := [d] }
  | _ => none }
def FnExactValidSieveWrongFalsely : Prop := fnExactValidSieveRow.holds Try.pinned (OpenSpec.ofChange fnExactValidSieveWrong)

/-- 'laws.FnExactSameSieve': WHATEVER THE INPUT: true; the input reads as it did. -/
def fnExactSameSieveSpec : ChangeSpec := { name := "fnExactSameSieve", fn := fun _ => fun
  | [d1, d2] => { results := [.lit (.bool true)], args := [d1, d2] }
  | _ => none }
def fnExactSameSieveRow : OpenClaim := { program := "ytfolflkbpdbkcaa", sum := "be433eb7c87685323c84d84b55cf3ffd93edf133ac9df6ec4c9c1b6d1685ade8", func := "loop.example/g01347/laws.FnExactSameSieve", spec := "fnExactSameSieve", apart := false }
def FnExactSameSieveSaid : Prop := fnExactSameSieveRow.holds Try.pinned (OpenSpec.ofChange fnExactSameSieveSpec)

/-- ITS FALSE NEIGHBOUR: 'it returns false'. Refute it at one input. -/
def fnExactSameSieveWrong : ChangeSpec := { name := "fnExactSameSieve", fn := fun _ => fun
  | [d1, d2] => { results := [.lit (.bool false)], args := [d1, d2] }
  | _ => none }
def FnExactSameSieveWrongFalsely : Prop := fnExactSameSieveRow.holds Try.pinned (OpenSpec.ofChange fnExactSameSieveWrong)

/-- 'laws.FnExactNewSieve': WHATEVER THE INPUT: true; the input reads as it did. -/
def fnExactNewSieveSpec : ChangeSpec := { name := "fnExactNewSieve", fn := fun _ => fun
  | [d1, d2, d3] => { results := [.lit (.bool true)], args := [d1, d2, d3] }
  | _ => none }
def fnExactNewSieveRow : OpenClaim := { program := "ytfolflkbpdbkcaa", sum := "be433eb7c87685323c84d84b55cf3ffd93edf133ac9df6ec4c9c1b6d1685ade8", func := "loop.example/g01347/laws.FnExactNewSieve", spec := "fnExactNewSieve", apart := false }
def FnExactNewSieveSaid : Prop := fnExactNewSieveRow.holds Try.pinned (OpenSpec.ofChange fnExactNewSieveSpec)

/-- ITS FALSE NEIGHBOUR: 'it returns false'. Refute it at one input. -/
def fnExactNewSieveWrong : ChangeSpec := { name := "fnExactNewSieve", fn := fun _ => fun
  | [d1, d2, d3] => { results := [.lit (.bool false)], args := [d1, d2, d3] }
  | _ => none }
def FnExactNewSieveWrongFalsely : Prop := fnExactNewSieveRow.holds Try.pinned (OpenSpec.ofChange fnExactNewSieveWrong)

/-- 'laws.FnExactPutSieve': WHATEVER THE INPUT: true; the input reads as it did. -/
def fnExactPutSieveSpec : ChangeSpec := { name := "fnExactPutSieve", fn := fun _ => fun
  | [d1, d2] => { results := [.lit (.bool true)], args := [d1, d2] }
  | _ => none }
def fnExactPutSieveRow : OpenClaim := { program := "ytfolflkbpdbkcaa", sum := "be433eb7c87685323c84d84b55cf3ffd93edf133ac9df6ec4c9c1b6d1685ade8", func := "loop.example/g01347/laws.FnExactPutSieve", spec := "fnExactPutSieve", apart := false }
def FnExactPutSieveSaid : Prop := fnExactPutSieveRow.holds Try.pinned (OpenSpec.ofChange fnExactPutSieveSpec)

/-- ITS FALSE NEIGHBOUR: 'it returns false'. Refute it at one input. -/
def fnExactPutSieveWrong : ChangeSpec := { name := "fnExactPutSieve", fn := fun _ => fun
  | [d1, d2] => { results := [.lit (.bool false)], args := [d1, d2] }
  | _ => none }
def FnExactPutSieveWrongFalsely : Prop := fnExactPutSieveRow.holds Try.pinned (OpenSpec.ofChange fnExactPutSieveWrong)

/-- 'laws.FnExactInSieve': WHATEVER THE INPUT: true; the input reads as it did. -/
def fnExactInSieveSpec : ChangeSpec := { name := "fnExactInSieve", fn := fun _ => fun
  | [d1, d2] => { results := [.lit (.bool true)], args := [d1, d2] }
  | _ => none }
def fnExactInSieveRow : OpenClaim := { program := "ytfolflkbpdbkcaa", sum := "be433eb7c87685323c84d84b55cf3ffd93edf133ac9df6ec4c9c1b6d1685ade8", func := "loop.example/g01347/laws.FnExactInSieve", spec := "fnExactInSieve", apart := false }
def FnExactInSieveSaid : Prop := fnExactInSieveRow.holds Try.pinned (OpenSpec.ofChange fnExactInSieveSpec)

/-- ITS FALSE NEIGHBOUR: 'it returns false'. Refute it at one input. -/
def fnExactInSieveWrong : ChangeSpec := { name := "fnExactInSieve", fn := fun _ => fun
  | [d1, d2] => { results := [.lit (.bool false)], args := [d1, d2] }
  | _ => none }
def FnExactInSieveWrongFalsely : Prop := fnExactInSieveRow.holds Try.pinned (OpenSpec.ofChange fnExactInSieveWrong)

/-- 'laws.FnExactSieveOf': WHATEVER THE INPUT: true; the input reads as it did. -/
def fnExactSieveOfSpec : ChangeSpec := { name := "fnExactSieveOf", fn := fun _ => fun
  | [d1, d2] => { results := [.lit (.bool true)], args := [d1, d2] }
  | _ => none }
def fnExactSieveOfRow : OpenClaim := { program := "ytfolflkbpdbkcaa", sum := "be433eb7c87685323c84d84b55cf3ffd93edf133ac9df6ec4c9c1b6d1685ade8", func := "loop.example/g01347/laws.FnExactSieveOf", spec := "fnExactSieveOf", apart := false }
def FnExactSieveOfSaid : Prop := fnExactSieveOfRow.holds Try.pinned (OpenSpec.ofChange fnExactSieveOfSpec)

/-- ITS FALSE NEIGHBOUR: 'it returns false'. Refute it at one input. -/
def fnExactSieveOfWrong : ChangeSpec := { name := "fnExactSieveOf", fn := fun _ => fun
  | [d1, d2] => { results := [.lit (.bool false)], args := [d1, d2] }
  | _ => none }
def FnExactSieveOfWrongFalsely : Prop := fnExactSieveOfRow.holds Try.pinned (OpenSpec.ofChange fnExactSieveOfWrong)

/-- 'laws.FnExactJoinSieves': WHATEVER THE INPUT: true; the input reads as it did. -/
def fnExactJoinSievesSpec : ChangeSpec := { name := "fnExactJoinSieves", fn := fun _ => fun
  | [d1, d2] => { results := [.lit (.bool true)], args := [d1, d2] }
  | _ => none }
def fnExactJoinSievesRow : OpenClaim := { program := "ytfolflkbpdbkcaa", sum := "be433eb7c87685323c84d84b55cf3ffd93edf133ac9df6ec4c9c1b6d1685ade8", func := "loop.example/g01347/laws.FnExactJoinSieves", spec := "fnExactJoinSieves", unfollowed := true, recurses := true, apart := false }
def FnExactJoinSievesSaid : Prop := fnExactJoinSievesRow.holds Try.pinned (OpenSpec.ofChange fnExactJoinSievesSpec)

/-- ITS FALSE NEIGHBOUR: 'it returns false'. Refute it at one input. -/
def fnExactJoinSievesWrong : ChangeSpec := { name := "fnExactJoinSieves", fn := fun _ => fun
  | [d1, d2] => { results := [.lit (.bool false)], args := [d1, d2] }
  | _ => none }
def FnExactJoinSievesWrongFalsely : Prop := fnExactJoinSievesRow.holds Try.pinned (OpenSpec.ofChange fnExactJoinSievesWrong)

/-- 'laws.FnExactMeetSieves': WHATEVER THE INPUT: true; the input reads as it did. -/
def fnExactMeetSievesSpec : ChangeSpec := { name := "fnExactMeetSieves", fn := fun _ => fun
  | [d1, d2] => { results := [.lit (.bool true)], args := [d1, d2] }
  | _ => none }
def fnExactMeetSievesRow : OpenClaim := { program := "ytfolflkbpdbkcaa", sum := "be433eb7c87685323c84d84b55cf3ffd93edf133ac9df6ec4c9c1b6d1685ade8", func := "loop.example/g01347/laws.FnExactMeetSieves", spec := "fnExactMeetSieves", unfollowed := true, recurses := true, apart := false }
def FnExactMeetSievesSaid : Prop := fnExactMeetSievesRow.holds Try.pinned (OpenSpec.ofChange fnExactMeetSievesSpec)

/-- ITS FALSE NEIGHBOUR: 'it returns false'. Refute it at one input. -/
def fnExactMeetSievesWrong : ChangeSpec := { name := "fnExactMeetSieves", fn := fun _ => fun
  | [d1, d2] => { results := [.lit (.bool false)], args := [d1, d2] }
  | _ => none }
def FnExactMeetSievesWrongFalsely : Prop := fnExactMeetSievesRow.holds Try.pinned (OpenSpec.ofChange fnExactMeetSievesWrong)

/-- 'laws.FnExactFullOfSieve': WHATEVER THE INPUT: true; the input reads as it did. -/
def fnExactFullOfSieveSpec : ChangeSpec := { name := "fnExactFullOfSieve", fn := fun _ => fun
  | [d] => { results := [.lit (.bool true)], args := [d] }
  | _ => none }
def fnExactFullOfSieveRow : OpenClaim := { program := "ytfolflkbpdbkcaa", sum := "be433eb7c87685323c84d84b55cf3ffd93edf133ac9df6ec4c9c1b6d1685ade8", func := "loop.example/g01347/laws.FnExactFullOfSieve", spec := "fnExactFullOfSieve", apart := false }
def FnExactFullOfSieveSaid : Prop := fnExactFullOfSieveRow.holds Try.pinned (OpenSpec.ofChange fnExactFullOfSieveSpec)

/-- ITS FALSE NEIGHBOUR: 'it returns false'. Refute it at one input. -/
def fnExactFullOfSieveWrong : ChangeSpec := { name := "fnExactFullOfSieve", fn := fun _ => fun
  | [d] => { results := [.lit (.bool false)], args := [d] }
  | _ => none }
def FnExactFullOfSieveWrongFalsely : Prop := fnExactFullOfSieveRow.holds Try.pinned (OpenSpec.ofChange fnExactFullOfSieveWrong)

/-- 'laws.FnExactFalseShare': WHATEVER THE INPUT: true; the input reads as it did. -/
def fnExactFalseShareSpec : ChangeSpec := { name := "fnExactFalseShare", fn := fun _ => fun
  | [d] => { results := [.lit (.bool true)], args := [d] }
  | _ => none }
def fnExactFalseShareRow : OpenClaim := { program := "ytfolflkbpdbkcaa", sum := "be433eb7c87685323c84d84b55cf3ffd93edf133ac9df6ec4c9c1b6d1685ade8", func := "loop.example/g01347/laws.FnExactFalseShare", spec := "fnExactFalseShare", apart := false }
def FnExactFalseShareSaid : Prop := fnExactFalseShareRow.holds Try.pinned (OpenSpec.ofChange fnExactFalseShareSpec)

/-- ITS FALSE NEIGHBOUR: 'it returns false'. Refute it at one input. -/
def fnExactFalseShareWrong : ChangeSpec := { name := "fnExactFalseShare", fn := fun _ => fun
  | [d] => { results := [.lit (.bool false)], args := [d] }
  | _ => none }
def FnExactFalseShareWrongFalsely : Prop := fnExactFalseShareRow.holds Try.pinned (OpenSpec.ofChange fnExactFalseShareWrong)

/-- 'laws.FnExactCountOfSieve': WHATEVER THE INPUT: true; the input reads as it did. -/
def fnExactCountOfSieveSpec : ChangeSpec := { name := "fnExactCountOfSieve", fn := fun _ => fun
  | [d] => { results := [.lit (.bool true)], args := [d] }
  | _ => none }
def fnExactCountOfSieveRow : OpenClaim := { program := "ytfolflkbpdbkcaa", sum := "be433eb7c87685323c84d84b55cf3ffd93edf133ac9df6ec4c9c1b6d1685ade8", func := "loop.example/g01347/laws.FnExactCountOfSieve", spec := "fnExactCountOfSieve", inPlace := ["math.Float64frombits", "math.Float64bits"], apart := false }
def FnExactCountOfSieveSaid : Prop := fnExactCountOfSieveRow.holds Try.pinned (OpenSpec.ofChange fnExactCountOfSieveSpec)

/-- ITS FALSE NEIGHBOUR: 'it returns false'. Refute it at one input. -/
def fnExactCountOfSieveWrong : ChangeSpec := { name := "fnExactCountOfSieve", fn := fun _ => fun
  | [d] => { results := [.lit (.bool false)], args := [d] }
  | _ => none }
def FnExactCountOfSieveWrongFalsely : Prop := fnExactCountOfSieveRow.holds Try.pinned (OpenSpec.ofChange fnExactCountOfSieveWrong)

/-- 'laws.FnExactInPeeled': WHATEVER THE INPUT: true; the input reads as it did. -/
def fnExactInPeeledSpec : ChangeSpec := { name := "fnExactInPeeled", fn := fun _ => fun
  | [d1, d2, d3] => { results := [.lit (.bool true)], args := [d1, d2, d3] }
  | _ => none }
def fnExactInPeeledRow : OpenClaim := { program := "ytfolflkbpdbkcaa", sum := "be433eb7c87685323c84d84b55cf3ffd93edf133ac9df6ec4c9c1b6d1685ade8", func := "loop.example/g01347/laws.FnExactInPeeled", spec := "fnExactInPeeled", apart := false }
def FnExactInPeeledSaid : Prop := fnExactInPeeledRow.holds Try.pinned (OpenSpec.ofChange fnExactInPeeledSpec)

/-- ITS FALSE NEIGHBOUR: 'it returns false'. Refute it at one input. -/
def fnExactInPeeledWrong : ChangeSpec := { name := "fnExactInPeeled", fn := fun _ => fun
  | [d1, d2, d3] => { results := [.lit (.bool false)], args := [d1, d2, d3] }
  | _ => none }
def FnExactInPeeledWrongFalsely : Prop := fnExactInPeeledRow.holds Try.pinned (OpenSpec.ofChange fnExactInPeeledWrong)

/- THE SECOND FORM. 'bulk': how many values and letters a reading holds, each counted each time it is reached (what is shared counts as often as it is met; a slice's spare places count too). A statement '..UptoSaid' is the law's where the arguments, and the package variables that the reading takes, are together of bulk at most 1048576: NARROWER than '..Said'. Prove '..Said' where nothing that the law and all that it calls make is longer than what came in: it says more and counts as full. Else prove '..UptoSaid'. A law counts once. -/
mutual
def uptoBulk {H : Type} : DataW H → Nat
  | .lit (.string bytes) => bytes.length + 1
  | .lit _ => 1
  | .nil => 1
  | .ptr d => uptoBulk d + 1
  | .slice elems spare => uptoBulkAll elems + uptoBulkAll spare + 1
  | .agg parts => uptoBulkAll parts + 1
  | .iface _ d => uptoBulk d + 1
  | .map entries => uptoBulkEntries entries + 1
  | .held _ => 1
def uptoBulkAll {H : Type} : List (DataW H) → Nat
  | [] => 0
  | d :: r => uptoBulk d + uptoBulkAll r
def uptoBulkEntries {H : Type} : List (Lit × DataW H) → Nat
  | [] => 0
  | x :: r => uptoBulkEntry x + uptoBulkEntries r
def uptoBulkEntry {H : Type} : Lit × DataW H → Nat
  | (.string bytes, d) => bytes.length + uptoBulk d + 1
  | (_, d) => uptoBulk d + 1
 end
def uptoSmall : (H : Type) → List (DataW H) → Bool := fun _ ds => decide (uptoBulkAll ds ≤ 1048576)
def OpenSpec.upto (s : _root_.Go.ChangeSpec) : _root_.Go.OpenSpec := { _root_.Go.OpenSpec.ofChange s with cond := some uptoSmall }

/-- 'laws.FnExactValidSieve', WHERE WHAT IT READS IS OF BULK AT MOST 1048576: true; the input reads as it did. -/
def fnExactValidSieveUptoRow : OpenClaim := { program := "ytfolflkbpdbkcaa", sum := "be433eb7c87685323c84d84b55cf3ffd93edf133ac9df6ec4c9c1b6d1685ade8", func := "loop.example/g01347/laws.FnExactValidSieve", spec := "fnExactValidSieve", apart := false, narrowed := true }
def FnExactValidSieveUptoSaid : Prop := fnExactValidSieveUptoRow.holds Try.pinned (OpenSpec.upto fnExactValidSieveSpec)

/-- 'laws.FnExactSameSieve', WHERE WHAT IT READS IS OF BULK AT MOST 1048576: true; the input reads as it did. -/
def fnExactSameSieveUptoRow : OpenClaim := { program := "ytfolflkbpdbkcaa", sum := "be433eb7c87685323c84d84b55cf3ffd93edf133ac9df6ec4c9c1b6d1685ade8", func := "loop.example/g01347/laws.FnExactSameSieve", spec := "fnExactSameSieve", apart := false, narrowed := true }
def FnExactSameSieveUptoSaid : Prop := fnExactSameSieveUptoRow.holds Try.pinned (OpenSpec.upto fnExactSameSieveSpec)

/-- 'laws.FnExactNewSieve', WHERE WHAT IT READS IS OF BULK AT MOST 1048576: true; the input reads as it did. -/
def fnExactNewSieveUptoRow : OpenClaim := { program := "ytfolflkbpdbkcaa", sum := "be433eb7c87685323c84d84b55cf3ffd93edf133ac9df6ec4c9c1b6d1685ade8", func := "loop.example/g01347/laws.FnExactNewSieve", spec := "fnExactNewSieve", apart := false, narrowed := true }
def FnExactNewSieveUptoSaid : Prop := fnExactNewSieveUptoRow.holds Try.pinned (OpenSpec.upto fnExactNewSieveSpec)

/-- 'laws.FnExactPutSieve', WHERE WHAT IT READS IS OF BULK AT MOST 1048576: true; the input reads as it did. -/
def fnExactPutSieveUptoRow : OpenClaim := { program := "ytfolflkbpdbkcaa", sum := "be433eb7c87685323c84d84b55cf3ffd93edf133ac9df6ec4c9c1b6d1685ade8", func := "loop.example/g01347/laws.FnExactPutSieve", spec := "fnExactPutSieve", apart := false, narrowed := true }
def FnExactPutSieveUptoSaid : Prop := fnExactPutSieveUptoRow.holds Try.pinned (OpenSpec.upto fnExactPutSieveSpec)

/-- 'laws.FnExactInSieve', WHERE WHAT IT READS IS OF BULK AT MOST 1048576: true; the input reads as it did. -/
def fnExactInSieveUptoRow : OpenClaim := { program := "ytfolflkbpdbkcaa", sum := "be433eb7c87685323c84d84b55cf3ffd93edf133ac9df6ec4c9c1b6d1685ade8", func := "loop.example/g01347/laws.FnExactInSieve", spec := "fnExactInSieve", apart := false, narrowed := true }
def FnExactInSieveUptoSaid : Prop := fnExactInSieveUptoRow.holds Try.pinned (OpenSpec.upto fnExactInSieveSpec)

/-- 'laws.FnExactSieveOf', WHERE WHAT IT READS IS OF BULK AT MOST 1048576: true; the input reads as it did. -/
def fnExactSieveOfUptoRow : OpenClaim := { program := "ytfolflkbpdbkcaa", sum := "be433eb7c87685323c84d84b55cf3ffd93edf133ac9df6ec4c9c1b6d1685ade8", func := "loop.example/g01347/laws.FnExactSieveOf", spec := "fnExactSieveOf", apart := false, narrowed := true }
def FnExactSieveOfUptoSaid : Prop := fnExactSieveOfUptoRow.holds Try.pinned (OpenSpec.upto fnExactSieveOfSpec)

/-- 'laws.FnExactJoinSieves', WHERE WHAT IT READS IS OF BULK AT MOST 1048576: true; the input reads as it did. -/
def fnExactJoinSievesUptoRow : OpenClaim := { program := "ytfolflkbpdbkcaa", sum := "be433eb7c87685323c84d84b55cf3ffd93edf133ac9df6ec4c9c1b6d1685ade8", func := "loop.example/g01347/laws.FnExactJoinSieves", spec := "fnExactJoinSieves", unfollowed := true, recurses := true, apart := false, narrowed := true }
def FnExactJoinSievesUptoSaid : Prop := fnExactJoinSievesUptoRow.holds Try.pinned (OpenSpec.upto fnExactJoinSievesSpec)

/-- 'laws.FnExactMeetSieves', WHERE WHAT IT READS IS OF BULK AT MOST 1048576: true; the input reads as it did. -/
def fnExactMeetSievesUptoRow : OpenClaim := { program := "ytfolflkbpdbkcaa", sum := "be433eb7c87685323c84d84b55cf3ffd93edf133ac9df6ec4c9c1b6d1685ade8", func := "loop.example/g01347/laws.FnExactMeetSieves", spec := "fnExactMeetSieves", unfollowed := true, recurses := true, apart := false, narrowed := true }
def FnExactMeetSievesUptoSaid : Prop := fnExactMeetSievesUptoRow.holds Try.pinned (OpenSpec.upto fnExactMeetSievesSpec)

/-- 'laws.FnExactFullOfSieve', WHERE WHAT IT READS IS OF BULK AT MOST 1048576: true; the input reads as it did. -/
def fnExactFullOfSieveUptoRow : OpenClaim := { program := "ytfolflkbpdbkcaa", sum := "be433eb7c87685323c84d84b55cf3ffd93edf133ac9df6ec4c9c1b6d1685ade8", func := "loop.example/g01347/laws.FnExactFullOfSieve", spec := "fnExactFullOfSieve", apart := false, narrowed := true }
def FnExactFullOfSieveUptoSaid : Prop := fnExactFullOfSieveUptoRow.holds Try.pinned (OpenSpec.upto fnExactFullOfSieveSpec)

/-- 'laws.FnExactFalseShare', WHERE WHAT IT READS IS OF BULK AT MOST 1048576: true; the input reads as it did. -/
def fnExactFalseShareUptoRow : OpenClaim := { program := "ytfolflkbpdbkcaa", sum := "be433eb7c87685323c84d84b55cf3ffd93edf133ac9df6ec4c9c1b6d1685ade8", func := "loop.example/g01347/laws.FnExactFalseShare", spec := "fnExactFalseShare", apart := false, narrowed := true }
def FnExactFalseShareUptoSaid : Prop := fnExactFalseShareUptoRow.holds Try.pinned (OpenSpec.upto fnExactFalseShareSpec)

/-- 'laws.FnExactCountOfSieve', WHERE WHAT IT READS IS OF BULK AT MOST 1048576: true; the input reads as it did. -/
def fnExactCountOfSieveUptoRow : OpenClaim := { program := "ytfolflkbpdbkcaa", sum := "be433eb7c87685323c84d84b55cf3ffd93edf133ac9df6ec4c9c1b6d1685ade8", func := "loop.example/g01347/laws.FnExactCountOfSieve", spec := "fnExactCountOfSieve", inPlace := ["math.Float64frombits", "math.Float64bits"], apart := false, narrowed := true }
def FnExactCountOfSieveUptoSaid : Prop := fnExactCountOfSieveUptoRow.holds Try.pinned (OpenSpec.upto fnExactCountOfSieveSpec)

/-- 'laws.FnExactInPeeled', WHERE WHAT IT READS IS OF BULK AT MOST 1048576: true; the input reads as it did. -/
def fnExactInPeeledUptoRow : OpenClaim := { program := "ytfolflkbpdbkcaa", sum := "be433eb7c87685323c84d84b55cf3ffd93edf133ac9df6ec4c9c1b6d1685ade8", func := "loop.example/g01347/laws.FnExactInPeeled", spec := "fnExactInPeeled", apart := false, narrowed := true }
def FnExactInPeeledUptoSaid : Prop := fnExactInPeeledUptoRow.holds Try.pinned (OpenSpec.upto fnExactInPeeledSpec)

end Rows
end Go.Proofs.Ytfolflkbpdbkcaa
