/-
  No cell of these rows narrows 'for every input' (looked for: loops, veiled, ifaces, maps, wideKeys, modest, calm, conditions, laid).
  DERIVED. THE GIVEN ROWS OF THIS SEAT. 11 by the template 'for every input the law returns true; each argument reads behind the call as it read before'; 0 by the template 'total and deterministic' (their statements: YtdbllnmhlfkhbaaTotals.lean).
  GIVEN WITH THE SEED: the statements are not yours to turn. If you find one false, say at which input.
  Laid BY PROGRAM, IN A SANDBOX (cutbox-rows.mjs): the forced cells as the released guide's own fill.sh prints them over the translation 3f9df03938ed790c… (all of the seat's roots in one cut). By AI agents, Wed Nov 11 2026. No macro, syntax, notation, axiom, sorry.
-/
import Derived.Test.YtdbllnmhlfkhbaaChecked
import GoSem.Claim
import GoSem.ClaimJoined
import GoSem.ClaimMapViews
import Derived.JoinedTies
import Derived.KernelRfl
namespace Go.Proofs.Ytdbllnmhlfkhbaa
/- THE CELL 'sum', in the pinned program and in every row, IS THE sha256 OF THE DUMP (.gsa) THAT YtdbllnmhlfkhbaaProg.lean LOADS. Nothing in Lean hashes anything: it is a label: what it is worth is what the hold of that sum in a sandbox is worth. -/
noncomputable def Try.pinned : Pinned := { name := "ytdbllnmhlfkhbaa", sum := "3f9df03938ed790cfadfee6b06cb9b3074bf8c10fdb4f200de5f8f12d2787aa1", checked := Try.checked }
namespace Rows
def none {H : Type} : Left H := { results := [], args := [] }

/-- 'laws.FnExactIsKey': WHATEVER THE INPUT: true; the input reads as it did. -/
def fnExactIsKeySpec : ChangeSpec := { name := "fnExactIsKey", fn := fun _ => fun
  | [d] => { results := [.lit (.bool true)], args := [d] }
  | _ => none }
def fnExactIsKeyRow : OpenClaim := { program := "ytdbllnmhlfkhbaa", sum := "3f9df03938ed790cfadfee6b06cb9b3074bf8c10fdb4f200de5f8f12d2787aa1", func := "loop.example/g01347/laws.FnExactIsKey", spec := "fnExactIsKey", apart := false }
def FnExactIsKeySaid : Prop := fnExactIsKeyRow.holds Try.pinned (OpenSpec.ofChange fnExactIsKeySpec)

/-- ITS FALSE NEIGHBOUR: 'it returns false'. Refute it at one input. -/
def fnExactIsKeyWrong : ChangeSpec := { name := "fnExactIsKey", fn := fun _ => fun
  | [d] => { results := [.lit (.bool false)], args := [d] }
  | _ => none }
def FnExactIsKeyWrongFalsely : Prop := fnExactIsKeyRow.holds Try.pinned (OpenSpec.ofChange fnExactIsKeyWrong)

/-- 'laws.FnExactAreKeys': WHATEVER THE INPUT: true; the input reads as it did. -/
def fnExactAreKeysSpec : ChangeSpec := { name := "fnExactAreKeys", fn := fun _ => fun
  | [d] => { results := [.lit (.bool true)], args := [d] }
  | _ => none }
def fnExactAreKeysRow : OpenClaim := { program := "ytdbllnmhlfkhbaa", sum := "3f9df03938ed790cfadfee6b06cb9b3074bf8c10fdb4f200de5f8f12d2787aa1", func := "loop.example/g01347/laws.FnExactAreKeys", spec := "fnExactAreKeys", apart := false }
def FnExactAreKeysSaid : Prop := fnExactAreKeysRow.holds Try.pinned (OpenSpec.ofChange fnExactAreKeysSpec)

/-- ITS FALSE NEIGHBOUR: 'it returns false'. Refute it at one input. -/
def fnExactAreKeysWrong : ChangeSpec := { name := "fnExactAreKeys", fn := fun _ => fun
  | [d] => { results := [.lit (.bool false)], args := [d] }
  | _ => none }
def FnExactAreKeysWrongFalsely : Prop := fnExactAreKeysRow.holds Try.pinned (OpenSpec.ofChange fnExactAreKeysWrong)

/-- 'laws.FnExactMixHash': WHATEVER THE INPUT: true; the input reads as it did. -/
def fnExactMixHashSpec : ChangeSpec := { name := "fnExactMixHash", fn := fun _ => fun
  | [d] => { results := [.lit (.bool true)], args := [d] }
  | _ => none }
def fnExactMixHashRow : OpenClaim := { program := "ytdbllnmhlfkhbaa", sum := "3f9df03938ed790cfadfee6b06cb9b3074bf8c10fdb4f200de5f8f12d2787aa1", func := "loop.example/g01347/laws.FnExactMixHash", spec := "fnExactMixHash", apart := false }
def FnExactMixHashSaid : Prop := fnExactMixHashRow.holds Try.pinned (OpenSpec.ofChange fnExactMixHashSpec)

/-- ITS FALSE NEIGHBOUR: 'it returns false'. Refute it at one input. -/
def fnExactMixHashWrong : ChangeSpec := { name := "fnExactMixHash", fn := fun _ => fun
  | [d] => { results := [.lit (.bool false)], args := [d] }
  | _ => none }
def FnExactMixHashWrongFalsely : Prop := fnExactMixHashRow.holds Try.pinned (OpenSpec.ofChange fnExactMixHashWrong)

/-- 'laws.FnExactHashOf': WHATEVER THE INPUT: true; the input reads as it did. -/
def fnExactHashOfSpec : ChangeSpec := { name := "fnExactHashOf", fn := fun _ => fun
  | [d1, d2] => { results := [.lit (.bool true)], args := [d1, d2] }
  | _ => none }
def fnExactHashOfRow : OpenClaim := { program := "ytdbllnmhlfkhbaa", sum := "3f9df03938ed790cfadfee6b06cb9b3074bf8c10fdb4f200de5f8f12d2787aa1", func := "loop.example/g01347/laws.FnExactHashOf", spec := "fnExactHashOf", apart := false }
def FnExactHashOfSaid : Prop := fnExactHashOfRow.holds Try.pinned (OpenSpec.ofChange fnExactHashOfSpec)

/-- ITS FALSE NEIGHBOUR: 'it returns false'. Refute it at one input. -/
def fnExactHashOfWrong : ChangeSpec := { name := "fnExactHashOf", fn := fun _ => fun
  | [d1, d2] => { results := [.lit (.bool false)], args := [d1, d2] }
  | _ => none }
def FnExactHashOfWrongFalsely : Prop := fnExactHashOfRow.holds Try.pinned (OpenSpec.ofChange fnExactHashOfWrong)

/-- 'laws.FnExactSignOf': WHATEVER THE INPUT: true; the input reads as it did. -/
def fnExactSignOfSpec : ChangeSpec := { name := "fnExactSignOf", fn := fun _ => fun
  | [d1, d2] => { results := [.lit (.bool true)], args := [d1, d2] }
  | _ => none }
def fnExactSignOfRow : OpenClaim := { program := "ytdbllnmhlfkhbaa", sum := "3f9df03938ed790cfadfee6b06cb9b3074bf8c10fdb4f200de5f8f12d2787aa1", func := "loop.example/g01347/laws.FnExactSignOf", spec := "fnExactSignOf", apart := false }
def FnExactSignOfSaid : Prop := fnExactSignOfRow.holds Try.pinned (OpenSpec.ofChange fnExactSignOfSpec)

/-- ITS FALSE NEIGHBOUR: 'it returns false'. Refute it at one input. -/
def fnExactSignOfWrong : ChangeSpec := { name := "fnExactSignOf", fn := fun _ => fun
  | [d1, d2] => { results := [.lit (.bool false)], args := [d1, d2] }
  | _ => none }
def FnExactSignOfWrongFalsely : Prop := fnExactSignOfRow.holds Try.pinned (OpenSpec.ofChange fnExactSignOfWrong)

/-- 'laws.FnExactBelowHash': WHATEVER THE INPUT: true; the input reads as it did. -/
def fnExactBelowHashSpec : ChangeSpec := { name := "fnExactBelowHash", fn := fun _ => fun
  | [d1, d2, d3] => { results := [.lit (.bool true)], args := [d1, d2, d3] }
  | _ => none }
def fnExactBelowHashRow : OpenClaim := { program := "ytdbllnmhlfkhbaa", sum := "3f9df03938ed790cfadfee6b06cb9b3074bf8c10fdb4f200de5f8f12d2787aa1", func := "loop.example/g01347/laws.FnExactBelowHash", spec := "fnExactBelowHash", apart := false }
def FnExactBelowHashSaid : Prop := fnExactBelowHashRow.holds Try.pinned (OpenSpec.ofChange fnExactBelowHashSpec)

/-- ITS FALSE NEIGHBOUR: 'it returns false'. Refute it at one input. -/
def fnExactBelowHashWrong : ChangeSpec := { name := "fnExactBelowHash", fn := fun _ => fun
  | [d1, d2, d3] => { results := [.lit (.bool false)], args := [d1, d2, d3] }
  | _ => none }
def FnExactBelowHashWrongFalsely : Prop := fnExactBelowHashRow.holds Try.pinned (OpenSpec.ofChange fnExactBelowHashWrong)

/-- 'laws.FnExactBitsOfHash': WHATEVER THE INPUT: true; the input reads as it did. -/
def fnExactBitsOfHashSpec : ChangeSpec := { name := "fnExactBitsOfHash", fn := fun _ => fun
  | [d1, d2, d3] => { results := [.lit (.bool true)], args := [d1, d2, d3] }
  | _ => none }
def fnExactBitsOfHashRow : OpenClaim := { program := "ytdbllnmhlfkhbaa", sum := "3f9df03938ed790cfadfee6b06cb9b3074bf8c10fdb4f200de5f8f12d2787aa1", func := "loop.example/g01347/laws.FnExactBitsOfHash", spec := "fnExactBitsOfHash", apart := false }
def FnExactBitsOfHashSaid : Prop := fnExactBitsOfHashRow.holds Try.pinned (OpenSpec.ofChange fnExactBitsOfHashSpec)

/-- ITS FALSE NEIGHBOUR: 'it returns false'. Refute it at one input. -/
def fnExactBitsOfHashWrong : ChangeSpec := { name := "fnExactBitsOfHash", fn := fun _ => fun
  | [d1, d2, d3] => { results := [.lit (.bool false)], args := [d1, d2, d3] }
  | _ => none }
def FnExactBitsOfHashWrongFalsely : Prop := fnExactBitsOfHashRow.holds Try.pinned (OpenSpec.ofChange fnExactBitsOfHashWrong)

/-- 'laws.FnExactZerosOf': WHATEVER THE INPUT: true; the input reads as it did. -/
def fnExactZerosOfSpec : ChangeSpec := { name := "fnExactZerosOf", fn := fun _ => fun
  | [d] => { results := [.lit (.bool true)], args := [d] }
  | _ => none }
def fnExactZerosOfRow : OpenClaim := { program := "ytdbllnmhlfkhbaa", sum := "3f9df03938ed790cfadfee6b06cb9b3074bf8c10fdb4f200de5f8f12d2787aa1", func := "loop.example/g01347/laws.FnExactZerosOf", spec := "fnExactZerosOf", apart := false }
def FnExactZerosOfSaid : Prop := fnExactZerosOfRow.holds Try.pinned (OpenSpec.ofChange fnExactZerosOfSpec)

/-- ITS FALSE NEIGHBOUR: 'it returns false'. Refute it at one input. -/
def fnExactZerosOfWrong : ChangeSpec := { name := "fnExactZerosOf", fn := fun _ => fun
  | [d] => { results := [.lit (.bool false)], args := [d] }
  | _ => none }
def FnExactZerosOfWrongFalsely : Prop := fnExactZerosOfRow.holds Try.pinned (OpenSpec.ofChange fnExactZerosOfWrong)

/-- 'laws.FnExactKeyOfText': WHATEVER THE INPUT: true; the input reads as it did. -/
def fnExactKeyOfTextSpec : ChangeSpec := { name := "fnExactKeyOfText", fn := fun _ => fun
  | [d] => { results := [.lit (.bool true)], args := [d] }
  | _ => none }
def fnExactKeyOfTextRow : OpenClaim := { program := "ytdbllnmhlfkhbaa", sum := "3f9df03938ed790cfadfee6b06cb9b3074bf8c10fdb4f200de5f8f12d2787aa1", func := "loop.example/g01347/laws.FnExactKeyOfText", spec := "fnExactKeyOfText", apart := false }
def FnExactKeyOfTextSaid : Prop := fnExactKeyOfTextRow.holds Try.pinned (OpenSpec.ofChange fnExactKeyOfTextSpec)

/-- ITS FALSE NEIGHBOUR: 'it returns false'. Refute it at one input. -/
def fnExactKeyOfTextWrong : ChangeSpec := { name := "fnExactKeyOfText", fn := fun _ => fun
  | [d] => { results := [.lit (.bool false)], args := [d] }
  | _ => none }
def FnExactKeyOfTextWrongFalsely : Prop := fnExactKeyOfTextRow.holds Try.pinned (OpenSpec.ofChange fnExactKeyOfTextWrong)

/-- 'laws.FnExactShareHash': WHATEVER THE INPUT: true; the input reads as it did. -/
def fnExactShareHashSpec : ChangeSpec := { name := "fnExactShareHash", fn := fun _ => fun
  | [d1, d2] => { results := [.lit (.bool true)], args := [d1, d2] }
  | _ => none }
def fnExactShareHashRow : OpenClaim := { program := "ytdbllnmhlfkhbaa", sum := "3f9df03938ed790cfadfee6b06cb9b3074bf8c10fdb4f200de5f8f12d2787aa1", func := "loop.example/g01347/laws.FnExactShareHash", spec := "fnExactShareHash", apart := false }
def FnExactShareHashSaid : Prop := fnExactShareHashRow.holds Try.pinned (OpenSpec.ofChange fnExactShareHashSpec)

/-- ITS FALSE NEIGHBOUR: 'it returns false'. Refute it at one input. -/
def fnExactShareHashWrong : ChangeSpec := { name := "fnExactShareHash", fn := fun _ => fun
  | [d1, d2] => { results := [.lit (.bool false)], args := [d1, d2] }
  | _ => none }
def FnExactShareHashWrongFalsely : Prop := fnExactShareHashRow.holds Try.pinned (OpenSpec.ofChange fnExactShareHashWrong)

/-- 'laws.FnExactHashRow': WHATEVER THE INPUT: true; the input reads as it did. -/
def fnExactHashRowSpec : ChangeSpec := { name := "fnExactHashRow", fn := fun _ => fun
  | [d1, d2] => { results := [.lit (.bool true)], args := [d1, d2] }
  | _ => none }
def fnExactHashRowRow : OpenClaim := { program := "ytdbllnmhlfkhbaa", sum := "3f9df03938ed790cfadfee6b06cb9b3074bf8c10fdb4f200de5f8f12d2787aa1", func := "loop.example/g01347/laws.FnExactHashRow", spec := "fnExactHashRow", apart := false }
def FnExactHashRowSaid : Prop := fnExactHashRowRow.holds Try.pinned (OpenSpec.ofChange fnExactHashRowSpec)

/-- ITS FALSE NEIGHBOUR: 'it returns false'. Refute it at one input. -/
def fnExactHashRowWrong : ChangeSpec := { name := "fnExactHashRow", fn := fun _ => fun
  | [d1, d2] => { results := [.lit (.bool false)], args := [d1, d2] }
  | _ => none }
def FnExactHashRowWrongFalsely : Prop := fnExactHashRowRow.holds Try.pinned (OpenSpec.ofChange fnExactHashRowWrong)

/- THE SECOND FORM. 'bulk': how many values and letters a reading holds, each counted each time it is reached (what is shared counts as often as it is met; a slice's spare places count too). A statement '..UptoSaid' is the law's where the arguments, and the package variables that the reading takes, are together of bulk at most 1048576: NARROWER than '..Said'. Prove '..Said' where nothing that the law and all that it calls make is longer than what came in: it says more and counts as full. Else prove '..UptoSaid'. A law counts once. -/
mutual
def uptoBulk {H : Type} : DataW H → Nat
  | .lit (.string bytes) => bytes.length + 1
  | .lit _ => 1
  | .nil => 1
  | .ptr d => uptoBulk d + 1
  | .slice elems spare => uptoBulkAll elems + uptoBulkAll spare + 1
  | .agg parts => uptoBulkAll parts + 1
  | .iface _ d => uptoBulk d + 1
  | .map entries => uptoBulkEntries entries + 1
  | .held _ => 1
def uptoBulkAll {H : Type} : List (DataW H) → Nat
  | [] => 0
  | d :: r => uptoBulk d + uptoBulkAll r
def uptoBulkEntries {H : Type} : List (Lit × DataW H) → Nat
  | [] => 0
  | x :: r => uptoBulkEntry x + uptoBulkEntries r
def uptoBulkEntry {H : Type} : Lit × DataW H → Nat
  | (.string bytes, d) => bytes.length + uptoBulk d + 1
  | (_, d) => uptoBulk d + 1
 end
def uptoSmall : (H : Type) → List (DataW H) → Bool := fun _ ds => decide (uptoBulkAll ds ≤ 1048576)
def OpenSpec.upto (s : _root_.Go.ChangeSpec) : _root_.Go.OpenSpec := { _root_.Go.OpenSpec.ofChange s with cond := some uptoSmall }

/-- 'laws.FnExactIsKey', WHERE WHAT IT READS IS OF BULK AT MOST 1048576: true; the input reads as it did. -/
def fnExactIsKeyUptoRow : OpenClaim := { program := "ytdbllnmhlfkhbaa", sum := "3f9df03938ed790cfadfee6b06cb9b3074bf8c10fdb4f200de5f8f12d2787aa1", func := "loop.example/g01347/laws.FnExactIsKey", spec := "fnExactIsKey", apart := false, narrowed := true }
def FnExactIsKeyUptoSaid : Prop := fnExactIsKeyUptoRow.holds Try.pinned (OpenSpec.upto fnExactIsKeySpec)

/-- 'laws.FnExactAreKeys', WHERE WHAT IT READS IS OF BULK AT MOST 1048576: true; the input reads as it did. -/
def fnExactAreKeysUptoRow : OpenClaim := { program := "ytdbllnmhlfkhbaa", sum := "3f9df03938ed790cfadfee6b06cb9b3074bf8c10fdb4f200de5f8f12d2787aa1", func := "loop.example/g01347/laws.FnExactAreKeys", spec := "fnExactAreKeys", apart := false, narrowed := true }
def FnExactAreKeysUptoSaid : Prop := fnExactAreKeysUptoRow.holds Try.pinned (OpenSpec.upto fnExactAreKeysSpec)

/-- 'laws.FnExactMixHash', WHERE WHAT IT READS IS OF BULK AT MOST 1048576: true; the input reads as it did. -/
def fnExactMixHashUptoRow : OpenClaim := { program := "ytdbllnmhlfkhbaa", sum := "3f9df03938ed790cfadfee6b06cb9b3074bf8c10fdb4f200de5f8f12d2787aa1", func := "loop.example/g01347/laws.FnExactMixHash", spec := "fnExactMixHash", apart := false, narrowed := true }
def FnExactMixHashUptoSaid : Prop := fnExactMixHashUptoRow.holds Try.pinned (OpenSpec.upto fnExactMixHashSpec)

/-- 'laws.FnExactHashOf', WHERE WHAT IT READS IS OF BULK AT MOST 1048576: true; the input reads as it did. -/
def fnExactHashOfUptoRow : OpenClaim := { program := "ytdbllnmhlfkhbaa", sum := "3f9df03938ed790cfadfee6b06cb9b3074bf8c10fdb4f200de5f8f12d2787aa1", func := "loop.example/g01347/laws.FnExactHashOf", spec := "fnExactHashOf", apart := false, narrowed := true }
def FnExactHashOfUptoSaid : Prop := fnExactHashOfUptoRow.holds Try.pinned (OpenSpec.upto fnExactHashOfSpec)

/-- 'laws.FnExactSignOf', WHERE WHAT IT READS IS OF BULK AT MOST 1048576: true; the input reads as it did. -/
def fnExactSignOfUptoRow : OpenClaim := { program := "ytdbllnmhlfkhbaa", sum := "3f9df03938ed790cfadfee6b06cb9b3074bf8c10fdb4f200de5f8f12d2787aa1", func := "loop.example/g01347/laws.FnExactSignOf", spec := "fnExactSignOf", apart := false, narrowed := true }
def FnExactSignOfUptoSaid : Prop := fnExactSignOfUptoRow.holds Try.pinned (OpenSpec.upto fnExactSignOfSpec)

/-- 'laws.FnExactBelowHash', WHERE WHAT IT READS IS OF BULK AT MOST 1048576: true; the input reads as it did. -/
def fnExactBelowHashUptoRow : OpenClaim := { program := "ytdbllnmhlfkhbaa", sum := "3f9df03938ed790cfadfee6b06cb9b3074bf8c10fdb4f200de5f8f12d2787aa1", func := "loop.example/g01347/laws.FnExactBelowHash", spec := "fnExactBelowHash", apart := false, narrowed := true }
def FnExactBelowHashUptoSaid : Prop := fnExactBelowHashUptoRow.holds Try.pinned (OpenSpec.upto fnExactBelowHashSpec)

/-- 'laws.FnExactBitsOfHash', WHERE WHAT IT READS IS OF BULK AT MOST 1048576: true; the input reads as it did. -/
def fnExactBitsOfHashUptoRow : OpenClaim := { program := "ytdbllnmhlfkhbaa", sum := "3f9df03938ed790cfadfee6b06cb9b3074bf8c10fdb4f200de5f8f12d2787aa1", func := "loop.example/g01347/laws.FnExactBitsOfHash", spec := "fnExactBitsOfHash", apart := false, narrowed := true }
def FnExactBitsOfHashUptoSaid : Prop := fnExactBitsOfHashUptoRow.holds Try.pinned (OpenSpec.upto fnExactBitsOfHashSpec)

/-- 'laws.FnExactZerosOf', WHERE WHAT IT READS IS OF BULK AT MOST 1048576: true; the input reads as it did. -/
def fnExactZerosOfUptoRow : OpenClaim := { program := "ytdbllnmhlfkhbaa", sum := "3f9df03938ed790cfadfee6b06cb9b3074bf8c10fdb4f200de5f8f12d2787aa1", func := "loop.example/g01347/laws.FnExactZerosOf", spec := "fnExactZerosOf", apart := false, narrowed := true }
def FnExactZerosOfUptoSaid : Prop := fnExactZerosOfUptoRow.holds Try.pinned (OpenSpec.upto fnExactZerosOfSpec)

/-- 'laws.FnExactKeyOfText', WHERE WHAT IT READS IS OF BULK AT MOST 1048576: true; the input reads as it did. -/
def fnExactKeyOfTextUptoRow : OpenClaim := { program := "ytdbllnmhlfkhbaa", sum := "3f9df03938ed790cfadfee6b06cb9b3074bf8c10fdb4f200de5f8f12d2787aa1", func := "loop.example/g01347/laws.FnExactKeyOfText", spec := "fnExactKeyOfText", apart := false, narrowed := true }
def FnExactKeyOfTextUptoSaid : Prop := fnExactKeyOfTextUptoRow.holds Try.pinned (OpenSpec.upto fnExactKeyOfTextSpec)

/-- 'laws.FnExactShareHash', WHERE WHAT IT READS IS OF BULK AT MOST 1048576: true; the input reads as it did. -/
def fnExactShareHashUptoRow : OpenClaim := { program := "ytdbllnmhlfkhbaa", sum := "3f9df03938ed790cfadfee6b06cb9b3074bf8c10fdb4f200de5f8f12d2787aa1", func := "loop.example/g01347/laws.FnExactShareHash", spec := "fnExactShareHash", apart := false, narrowed := true }
def FnExactShareHashUptoSaid : Prop := fnExactShareHashUptoRow.holds Try.pinned (OpenSpec.upto fnExactShareHashSpec)

/-- 'laws.FnExactHashRow', WHERE WHAT IT READS IS OF BULK AT MOST 1048576: true; the input reads as it did. -/
def fnExactHashRowUptoRow : OpenClaim := { program := "ytdbllnmhlfkhbaa", sum := "3f9df03938ed790cfadfee6b06cb9b3074bf8c10fdb4f200de5f8f12d2787aa1", func := "loop.example/g01347/laws.FnExactHashRow", spec := "fnExactHashRow", apart := false, narrowed := true }
def FnExactHashRowUptoSaid : Prop := fnExactHashRowUptoRow.holds Try.pinned (OpenSpec.upto fnExactHashRowSpec)

end Rows
end Go.Proofs.Ytdbllnmhlfkhbaa
