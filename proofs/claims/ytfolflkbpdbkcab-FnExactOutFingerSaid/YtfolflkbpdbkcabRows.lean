/-
  No cell of these rows narrows 'for every input' (looked for: loops, veiled, ifaces, maps, wideKeys, modest, calm, conditions, laid).
  DERIVED. THE GIVEN ROWS OF THIS SEAT. 12 by the template 'for every input the law returns true; each argument reads behind the call as it read before'; 0 by the template 'total and deterministic' (their statements: YtfolflkbpdbkcabTotals.lean).
  GIVEN WITH THE SEED: the statements are not yours to turn. If you find one false, say at which input.
  Laid BY PROGRAM, IN A SANDBOX (cutbox-rows.mjs): the forced cells as the released guide's own fill.sh prints them over the translation a41eead95e9c256c… (all of the seat's roots in one cut). By AI agents, Wed Nov 11 2026. No macro, syntax, notation, axiom, sorry.
-/
import Derived.Test.YtfolflkbpdbkcabChecked
import GoSem.Claim
import GoSem.ClaimJoined
import GoSem.ClaimMapViews
import Derived.JoinedTies
import Derived.KernelRfl
namespace Go.Proofs.Ytfolflkbpdbkcab
/- THE CELL 'sum', in the pinned program and in every row, IS THE sha256 OF THE DUMP (.gsa) THAT YtfolflkbpdbkcabProg.lean LOADS. Nothing in Lean hashes anything: it is a label: what it is worth is what the hold of that sum in a sandbox is worth. -/
noncomputable def Try.pinned : Pinned := { name := "ytfolflkbpdbkcab", sum := "a41eead95e9c256c5a665284f3bc23eeb3eba8c2522ae24490f66db418596816", checked := Try.checked }
namespace Rows
def none {H : Type} : Left H := { results := [], args := [] }

/-- 'laws.FnExactValidTally': WHATEVER THE INPUT: true; the input reads as it did. -/
def fnExactValidTallySpec : ChangeSpec := { name := "fnExactValidTally", fn := fun _ => fun
  | [d] => { results := [.lit (.bool true)], args := [d] }
  | _ => none }
def fnExactValidTallyRow : OpenClaim := { program := "ytfolflkbpdbkcab", sum := "a41eead95e9c256c5a665284f3bc23eeb3eba8c2522ae24490f66db418596816", func := "loop.example/g01347/laws.FnExactValidTally", spec := "fnExactValidTally", apart := false }
def FnExactValidTallySaid : Prop := fnExactValidTallyRow.holds Try.pinned (OpenSpec.ofChange fnExactValidTallySpec)

/-- ITS FALSE NEIGHBOUR: 'it returns false'. Refute it at one input. -/
def fnExactValidTallyWrong : ChangeSpec := { name := "fnExactValidTally", fn := fun _ => fun
  | [d] => { results := [.lit (.bool false)], args := [d] }
  | _ => none }
def FnExactValidTallyWrongFalsely : Prop := fnExactValidTallyRow.holds Try.pinned (OpenSpec.ofChange fnExactValidTallyWrong)

/-- 'laws.FnExactPutTally': WHATEVER THE INPUT: true; the input reads as it did. -/
def fnExactPutTallySpec : ChangeSpec := { name := "fnExactPutTally", fn := fun _ => fun
  | [d1, d2] => { results := [.lit (.bool true)], args := [d1, d2] }
  | _ => none }
def fnExactPutTallyRow : OpenClaim := { program := "ytfolflkbpdbkcab", sum := "a41eead95e9c256c5a665284f3bc23eeb3eba8c2522ae24490f66db418596816", func := "loop.example/g01347/laws.FnExactPutTally", spec := "fnExactPutTally", apart := false }
def FnExactPutTallySaid : Prop := fnExactPutTallyRow.holds Try.pinned (OpenSpec.ofChange fnExactPutTallySpec)

/-- ITS FALSE NEIGHBOUR: 'it returns false'. Refute it at one input. -/
def fnExactPutTallyWrong : ChangeSpec := { name := "fnExactPutTally", fn := fun _ => fun
  | [d1, d2] => { results := [.lit (.bool false)], args := [d1, d2] }
  | _ => none }
def FnExactPutTallyWrongFalsely : Prop := fnExactPutTallyRow.holds Try.pinned (OpenSpec.ofChange fnExactPutTallyWrong)

/-- 'laws.FnExactOutTally': WHATEVER THE INPUT: true; the input reads as it did. -/
def fnExactOutTallySpec : ChangeSpec := { name := "fnExactOutTally", fn := fun _ => fun
  | [d1, d2] => { results := [.lit (.bool true)], args := [d1, d2] }
  | _ => none }
def fnExactOutTallyRow : OpenClaim := { program := "ytfolflkbpdbkcab", sum := "a41eead95e9c256c5a665284f3bc23eeb3eba8c2522ae24490f66db418596816", func := "loop.example/g01347/laws.FnExactOutTally", spec := "fnExactOutTally", apart := false }
def FnExactOutTallySaid : Prop := fnExactOutTallyRow.holds Try.pinned (OpenSpec.ofChange fnExactOutTallySpec)

/-- ITS FALSE NEIGHBOUR: 'it returns false'. Refute it at one input. -/
def fnExactOutTallyWrong : ChangeSpec := { name := "fnExactOutTally", fn := fun _ => fun
  | [d1, d2] => { results := [.lit (.bool false)], args := [d1, d2] }
  | _ => none }
def FnExactOutTallyWrongFalsely : Prop := fnExactOutTallyRow.holds Try.pinned (OpenSpec.ofChange fnExactOutTallyWrong)

/-- 'laws.FnExactInTally': WHATEVER THE INPUT: true; the input reads as it did. -/
def fnExactInTallySpec : ChangeSpec := { name := "fnExactInTally", fn := fun _ => fun
  | [d1, d2] => { results := [.lit (.bool true)], args := [d1, d2] }
  | _ => none }
def fnExactInTallyRow : OpenClaim := { program := "ytfolflkbpdbkcab", sum := "a41eead95e9c256c5a665284f3bc23eeb3eba8c2522ae24490f66db418596816", func := "loop.example/g01347/laws.FnExactInTally", spec := "fnExactInTally", apart := false }
def FnExactInTallySaid : Prop := fnExactInTallyRow.holds Try.pinned (OpenSpec.ofChange fnExactInTallySpec)

/-- ITS FALSE NEIGHBOUR: 'it returns false'. Refute it at one input. -/
def fnExactInTallyWrong : ChangeSpec := { name := "fnExactInTally", fn := fun _ => fun
  | [d1, d2] => { results := [.lit (.bool false)], args := [d1, d2] }
  | _ => none }
def FnExactInTallyWrongFalsely : Prop := fnExactInTallyRow.holds Try.pinned (OpenSpec.ofChange fnExactInTallyWrong)

/-- 'laws.FnExactValidFingers': WHATEVER THE INPUT: true; the input reads as it did. -/
def fnExactValidFingersSpec : ChangeSpec := { name := "fnExactValidFingers", fn := fun _ => fun
  | [d] => { results := [.lit (.bool true)], args := [d] }
  | _ => none }
def fnExactValidFingersRow : OpenClaim := { program := "ytfolflkbpdbkcab", sum := "a41eead95e9c256c5a665284f3bc23eeb3eba8c2522ae24490f66db418596816", func := "loop.example/g01347/laws.FnExactValidFingers", spec := "fnExactValidFingers", apart := false }
def FnExactValidFingersSaid : Prop := fnExactValidFingersRow.holds Try.pinned (OpenSpec.ofChange fnExactValidFingersSpec)

/-- ITS FALSE NEIGHBOUR: 'it returns false'. Refute it at one input. -/
def fnExactValidFingersWrong : ChangeSpec := { name := "fnExactValidFingers", fn := fun _ => fun
  | [d] => { results := [.lit (.bool false)], args := [d] }
  | _ => none }
def FnExactValidFingersWrongFalsely : Prop := fnExactValidFingersRow.holds Try.pinned (OpenSpec.ofChange fnExactValidFingersWrong)

/-- 'laws.FnExactPutFinger': WHATEVER THE INPUT: true; the input reads as it did. -/
def fnExactPutFingerSpec : ChangeSpec := { name := "fnExactPutFinger", fn := fun _ => fun
  | [d1, d2] => { results := [.lit (.bool true)], args := [d1, d2] }
  | _ => none }
def fnExactPutFingerRow : OpenClaim := { program := "ytfolflkbpdbkcab", sum := "a41eead95e9c256c5a665284f3bc23eeb3eba8c2522ae24490f66db418596816", func := "loop.example/g01347/laws.FnExactPutFinger", spec := "fnExactPutFinger", apart := false }
def FnExactPutFingerSaid : Prop := fnExactPutFingerRow.holds Try.pinned (OpenSpec.ofChange fnExactPutFingerSpec)

/-- ITS FALSE NEIGHBOUR: 'it returns false'. Refute it at one input. -/
def fnExactPutFingerWrong : ChangeSpec := { name := "fnExactPutFinger", fn := fun _ => fun
  | [d1, d2] => { results := [.lit (.bool false)], args := [d1, d2] }
  | _ => none }
def FnExactPutFingerWrongFalsely : Prop := fnExactPutFingerRow.holds Try.pinned (OpenSpec.ofChange fnExactPutFingerWrong)

/-- 'laws.FnExactInFingers': WHATEVER THE INPUT: true; the input reads as it did. -/
def fnExactInFingersSpec : ChangeSpec := { name := "fnExactInFingers", fn := fun _ => fun
  | [d1, d2] => { results := [.lit (.bool true)], args := [d1, d2] }
  | _ => none }
def fnExactInFingersRow : OpenClaim := { program := "ytfolflkbpdbkcab", sum := "a41eead95e9c256c5a665284f3bc23eeb3eba8c2522ae24490f66db418596816", func := "loop.example/g01347/laws.FnExactInFingers", spec := "fnExactInFingers", apart := false }
def FnExactInFingersSaid : Prop := fnExactInFingersRow.holds Try.pinned (OpenSpec.ofChange fnExactInFingersSpec)

/-- ITS FALSE NEIGHBOUR: 'it returns false'. Refute it at one input. -/
def fnExactInFingersWrong : ChangeSpec := { name := "fnExactInFingers", fn := fun _ => fun
  | [d1, d2] => { results := [.lit (.bool false)], args := [d1, d2] }
  | _ => none }
def FnExactInFingersWrongFalsely : Prop := fnExactInFingersRow.holds Try.pinned (OpenSpec.ofChange fnExactInFingersWrong)

/-- 'laws.FnExactOutFinger': WHATEVER THE INPUT: true; the input reads as it did. -/
def fnExactOutFingerSpec : ChangeSpec := { name := "fnExactOutFinger", fn := fun _ => fun
  | [d1, d2] => { results := [.lit (.bool true)], args := [d1, d2] }
  | _ => none }
def fnExactOutFingerRow : OpenClaim := { program := "ytfolflkbpdbkcab", sum := "a41eead95e9c256c5a665284f3bc23eeb3eba8c2522ae24490f66db418596816", func := "loop.example/g01347/laws.FnExactOutFinger", spec := "fnExactOutFinger", apart := false }
def FnExactOutFingerSaid : Prop := fnExactOutFingerRow.holds Try.pinned (OpenSpec.ofChange fnExactOutFingerSpec)

/-- ITS FALSE NEIGHBOUR: 'it returns false'. Refute it at one input. -/
def fnExactOutFingerWrong : ChangeSpec := { name := "fnExactOutFinger", fn := fun _ => fun
  | [d1, d2] => { results := [.lit (.bool false)], args := [d1, d2] }
  | _ => none }
def FnExactOutFingerWrongFalsely : Prop := fnExactOutFingerRow.holds Try.pinned (OpenSpec.ofChange fnExactOutFingerWrong)

/-- 'laws.FnExactValidZeros': WHATEVER THE INPUT: true; the input reads as it did. -/
def fnExactValidZerosSpec : ChangeSpec := { name := "fnExactValidZeros", fn := fun _ => fun
  | [d] => { results := [.lit (.bool true)], args := [d] }
  | _ => none }
def fnExactValidZerosRow : OpenClaim := { program := "ytfolflkbpdbkcab", sum := "a41eead95e9c256c5a665284f3bc23eeb3eba8c2522ae24490f66db418596816", func := "loop.example/g01347/laws.FnExactValidZeros", spec := "fnExactValidZeros", apart := false }
def FnExactValidZerosSaid : Prop := fnExactValidZerosRow.holds Try.pinned (OpenSpec.ofChange fnExactValidZerosSpec)

/-- ITS FALSE NEIGHBOUR: 'it returns false'. Refute it at one input. -/
def fnExactValidZerosWrong : ChangeSpec := { name := "fnExactValidZeros", fn := fun _ => fun
  | [d] => { results := [.lit (.bool false)], args := [d] }
  | _ => none }
def FnExactValidZerosWrongFalsely : Prop := fnExactValidZerosRow.holds Try.pinned (OpenSpec.ofChange fnExactValidZerosWrong)

/-- 'laws.FnExactPutZeros': WHATEVER THE INPUT: true; the input reads as it did. -/
def fnExactPutZerosSpec : ChangeSpec := { name := "fnExactPutZeros", fn := fun _ => fun
  | [d1, d2] => { results := [.lit (.bool true)], args := [d1, d2] }
  | _ => none }
def fnExactPutZerosRow : OpenClaim := { program := "ytfolflkbpdbkcab", sum := "a41eead95e9c256c5a665284f3bc23eeb3eba8c2522ae24490f66db418596816", func := "loop.example/g01347/laws.FnExactPutZeros", spec := "fnExactPutZeros", apart := false }
def FnExactPutZerosSaid : Prop := fnExactPutZerosRow.holds Try.pinned (OpenSpec.ofChange fnExactPutZerosSpec)

/-- ITS FALSE NEIGHBOUR: 'it returns false'. Refute it at one input. -/
def fnExactPutZerosWrong : ChangeSpec := { name := "fnExactPutZeros", fn := fun _ => fun
  | [d1, d2] => { results := [.lit (.bool false)], args := [d1, d2] }
  | _ => none }
def FnExactPutZerosWrongFalsely : Prop := fnExactPutZerosRow.holds Try.pinned (OpenSpec.ofChange fnExactPutZerosWrong)

/-- 'laws.FnExactJoinZeros': WHATEVER THE INPUT: true; the input reads as it did. -/
def fnExactJoinZerosSpec : ChangeSpec := { name := "fnExactJoinZeros", fn := fun _ => fun
  | [d1, d2] => { results := [.lit (.bool true)], args := [d1, d2] }
  | _ => none }
def fnExactJoinZerosRow : OpenClaim := { program := "ytfolflkbpdbkcab", sum := "a41eead95e9c256c5a665284f3bc23eeb3eba8c2522ae24490f66db418596816", func := "loop.example/g01347/laws.FnExactJoinZeros", spec := "fnExactJoinZeros", apart := false }
def FnExactJoinZerosSaid : Prop := fnExactJoinZerosRow.holds Try.pinned (OpenSpec.ofChange fnExactJoinZerosSpec)

/-- ITS FALSE NEIGHBOUR: 'it returns false'. Refute it at one input. -/
def fnExactJoinZerosWrong : ChangeSpec := { name := "fnExactJoinZeros", fn := fun _ => fun
  | [d1, d2] => { results := [.lit (.bool false)], args := [d1, d2] }
  | _ => none }
def FnExactJoinZerosWrongFalsely : Prop := fnExactJoinZerosRow.holds Try.pinned (OpenSpec.ofChange fnExactJoinZerosWrong)

/-- 'laws.FnExactCountOfZeros': WHATEVER THE INPUT: true; the input reads as it did. -/
def fnExactCountOfZerosSpec : ChangeSpec := { name := "fnExactCountOfZeros", fn := fun _ => fun
  | [d] => { results := [.lit (.bool true)], args := [d] }
  | _ => none }
def fnExactCountOfZerosRow : OpenClaim := { program := "ytfolflkbpdbkcab", sum := "a41eead95e9c256c5a665284f3bc23eeb3eba8c2522ae24490f66db418596816", func := "loop.example/g01347/laws.FnExactCountOfZeros", spec := "fnExactCountOfZeros", inPlace := ["math.Float64frombits", "math.Float64bits"], apart := false }
def FnExactCountOfZerosSaid : Prop := fnExactCountOfZerosRow.holds Try.pinned (OpenSpec.ofChange fnExactCountOfZerosSpec)

/-- ITS FALSE NEIGHBOUR: 'it returns false'. Refute it at one input. -/
def fnExactCountOfZerosWrong : ChangeSpec := { name := "fnExactCountOfZeros", fn := fun _ => fun
  | [d] => { results := [.lit (.bool false)], args := [d] }
  | _ => none }
def FnExactCountOfZerosWrongFalsely : Prop := fnExactCountOfZerosRow.holds Try.pinned (OpenSpec.ofChange fnExactCountOfZerosWrong)

/- THE SECOND FORM. 'bulk': how many values and letters a reading holds, each counted each time it is reached (what is shared counts as often as it is met; a slice's spare places count too). A statement '..UptoSaid' is the law's where the arguments, and the package variables that the reading takes, are together of bulk at most 1048576: NARROWER than '..Said'. Prove '..Said' where nothing that the law and all that it calls make is longer than what came in: it says more and counts as full. Else prove '..UptoSaid'. A law counts once. -/
mutual
def uptoBulk {H : Type} : DataW H → Nat
  | .lit (.string bytes) => bytes.length + 1
  | .lit _ => 1
  | .nil => 1
  | .ptr d => uptoBulk d + 1
  | .slice elems spare => uptoBulkAll elems + uptoBulkAll spare + 1
  | .agg parts => uptoBulkAll parts + 1
  | .iface _ d => uptoBulk d + 1
  | .map entries => uptoBulkEntries entries + 1
  | .held _ => 1
def uptoBulkAll {H : Type} : List (DataW H) → Nat
  | [] => 0
  | d :: r => uptoBulk d + uptoBulkAll r
def uptoBulkEntries {H : Type} : List (Lit × DataW H) → Nat
  | [] => 0
  | x :: r => uptoBulkEntry x + uptoBulkEntries r
def uptoBulkEntry {H : Type} : Lit × DataW H → Nat
  | (.string bytes, d) => bytes.length + uptoBulk d + 1
  | (_, d) => uptoBulk d + 1
 end
def uptoSmall : (H : Type) → List (DataW H) → Bool := fun _ ds => decide (uptoBulkAll ds ≤ 1048576)
def OpenSpec.upto (s : _root_.Go.ChangeSpec) : _root_.Go.OpenSpec := { _root_.Go.OpenSpec.ofChange s with cond := some uptoSmall }

/-- 'laws.FnExactValidTally', WHERE WHAT IT READS IS OF BULK AT MOST 1048576: true; the input reads as it did. -/
def fnExactValidTallyUptoRow : OpenClaim := { program := "ytfolflkbpdbkcab", sum := "a41eead95e9c256c5a665284f3bc23eeb3eba8c2522ae24490f66db418596816", func := "loop.example/g01347/laws.FnExactValidTally", spec := "fnExactValidTally", apart := false, narrowed := true }
def FnExactValidTallyUptoSaid : Prop := fnExactValidTallyUptoRow.holds Try.pinned (OpenSpec.upto fnExactValidTallySpec)

/-- 'laws.FnExactPutTally', WHERE WHAT IT READS IS OF BULK AT MOST 1048576: true; the input reads as it did. -/
def fnExactPutTallyUptoRow : OpenClaim := { program := "ytfolflkbpdbkcab", sum := "a41eead95e9c256c5a665284f3bc23eeb3eba8c2522ae24490f66db418596816", func := "loop.example/g01347/laws.FnExactPutTally", spec := "fnExactPutTally", apart := false, narrowed := true }
def FnExactPutTallyUptoSaid : Prop := fnExactPutTallyUptoRow.holds Try.pinned (OpenSpec.upto fnExactPutTallySpec)

/-- 'laws.FnExactOutTally', WHERE WHAT IT READS IS OF BULK AT MOST 1048576: true; the input reads as it did. -/
def fnExactOutTallyUptoRow : OpenClaim := { program := "ytfolflkbpdbkcab", sum := "a41eead95e9c256c5a665284f3bc23eeb3eba8c2522ae24490f66db418596816", func := "loop.example/g01347/laws.FnExactOutTally", spec := "fnExactOutTally", apart := false, narrowed := true }
def FnExactOutTallyUptoSaid : Prop := fnExactOutTallyUptoRow.holds Try.pinned (OpenSpec.upto fnExactOutTallySpec)

/-- 'laws.FnExactInTally', WHERE WHAT IT READS IS OF BULK AT MOST 1048576: true; the input reads as it did. -/
def fnExactInTallyUptoRow : OpenClaim := { program := "ytfolflkbpdbkcab", sum := "a41eead95e9c256c5a665284f3bc23eeb3eba8c2522ae24490f66db418596816", func := "loop.example/g01347/laws.FnExactInTally", spec := "fnExactInTally", apart := false, narrowed := true }
def FnExactInTallyUptoSaid : Prop := fnExactInTallyUptoRow.holds Try.pinned (OpenSpec.upto fnExactInTallySpec)

/-- 'laws.FnExactValidFingers', WHERE WHAT IT READS IS OF BULK AT MOST 1048576: true; the input reads as it did. -/
def fnExactValidFingersUptoRow : OpenClaim := { program := "ytfolflkbpdbkcab", sum := "a41eead95e9c256c5a665284f3bc23eeb3eba8c2522ae24490f66db418596816", func := "loop.example/g01347/laws.FnExactValidFingers", spec := "fnExactValidFingers", apart := false, narrowed := true }
def FnExactValidFingersUptoSaid : Prop := fnExactValidFingersUptoRow.holds Try.pinned (OpenSpec.upto fnExactValidFingersSpec)

/-- 'laws.FnExactPutFinger', WHERE WHAT IT READS IS OF BULK AT MOST 1048576: true; the input reads as it did. -/
def fnExactPutFingerUptoRow : OpenClaim := { program := "ytfolflkbpdbkcab", sum := "a41eead95e9c256c5a665284f3bc23eeb3eba8c2522ae24490f66db418596816", func := "loop.example/g01347/laws.FnExactPutFinger", spec := "fnExactPutFinger", apart := false, narrowed := true }
def FnExactPutFingerUptoSaid : Prop := fnExactPutFingerUptoRow.holds Try.pinned (OpenSpec.upto fnExactPutFingerSpec)

/-- 'laws.FnExactInFingers', WHERE WHAT IT READS IS OF BULK AT MOST 1048576: true; the input reads as it did. -/
def fnExactInFingersUptoRow : OpenClaim := { program := "ytfolflkbpdbkcab", sum := "a41eead95e9c256c5a665284f3bc23eeb3eba8c2522ae24490f66db418596816", func := "loop.example/g01347/laws.FnExactInFingers", spec := "fnExactInFingers", apart := false, narrowed := true }
def FnExactInFingersUptoSaid : Prop := fnExactInFingersUptoRow.holds Try.pinned (OpenSpec.upto fnExactInFingersSpec)

/-- 'laws.FnExactOutFinger', WHERE WHAT IT READS IS OF BULK AT MOST 1048576: true; the input reads as it did. -/
def fnExactOutFingerUptoRow : OpenClaim := { program := "ytfolflkbpdbkcab", sum := "a41eead95e9c256c5a665284f3bc23eeb3eba8c2522ae24490f66db418596816", func := "loop.example/g01347/laws.FnExactOutFinger", spec := "fnExactOutFinger", apart := false, narrowed := true }
def FnExactOutFingerUptoSaid : Prop := fnExactOutFingerUptoRow.holds Try.pinned (OpenSpec.upto fnExactOutFingerSpec)

/-- 'laws.FnExactValidZeros', WHERE WHAT IT READS IS OF BULK AT MOST 1048576: true; the input reads as it did. -/
def fnExactValidZerosUptoRow : OpenClaim := { program := "ytfolflkbpdbkcab", sum := "a41eead95e9c256c5a665284f3bc23eeb3eba8c2522ae24490f66db418596816", func := "loop.example/g01347/laws.FnExactValidZeros", spec := "fnExactValidZeros", apart := false, narrowed := true }
def FnExactValidZerosUptoSaid : Prop := fnExactValidZerosUptoRow.holds Try.pinned (OpenSpec.upto fnExactValidZerosSpec)

/-- 'laws.FnExactPutZeros', WHERE WHAT IT READS IS OF BULK AT MOST 1048576: true; the input reads as it did. -/
def fnExactPutZerosUptoRow : OpenClaim := { program := "ytfolflkbpdbkcab", sum := "a41eead95e9c256c5a665284f3bc23eeb3eba8c2522ae24490f66db418596816", func := "loop.example/g01347/laws.FnExactPutZeros", spec := "fnExactPutZeros", apart := false, narrowed := true }
def FnExactPutZerosUptoSaid : Prop := fnExactPutZerosUptoRow.holds Try.pinned (OpenSpec.upto fnExactPutZerosSpec)

/-- 'laws.FnExactJoinZeros', WHERE WHAT IT READS IS OF BULK AT MOST 1048576: true; the input reads as it did. -/
def fnExactJoinZerosUptoRow : OpenClaim := { program := "ytfolflkbpdbkcab", sum := "a41eead95e9c256c5a665284f3bc23eeb3eba8c2522ae24490f66db418596816", func := "loop.example/g01347/laws.FnExactJoinZeros", spec := "fnExactJoinZeros", apart := false, narrowed := true }
def FnExactJoinZerosUptoSaid : Prop := fnExactJoinZerosUptoRow.holds Try.pinned (OpenSpec.upto fnExactJoinZerosSpec)

/-- 'laws.FnExactCountOfZeros', WHERE WHAT IT READS IS OF BULK AT MOST 1048576: true; the input reads as it did. -/
def fnExactCountOfZerosUptoRow : OpenClaim := { program := "ytfolflkbpdbkcab", sum := "a41eead95e9c256c5a665284f3bc23eeb3eba8c2522ae24490f66db418596816", func := "loop.example/g01347/laws.FnExactCountOfZeros", spec := "fnExactCountOfZeros", inPlace := ["math.Float64frombits", "math.Float64bits"], apart := false, narrowed := true }
def FnExactCountOfZerosUptoSaid : Prop := fnExactCountOfZerosUptoRow.holds Try.pinned (OpenSpec.upto fnExactCountOfZerosSpec)

end Rows
end Go.Proofs.Ytfolflkbpdbkcab
