/-
  No cell of these rows narrows 'for every input' (looked for: loops, veiled, ifaces, maps, wideKeys, modest, calm, conditions, laid).
  DERIVED. THE GIVEN ROWS OF THIS SEAT. 10 by the template 'for every input the law returns true; each argument reads behind the call as it read before'; 0 by the template 'total and deterministic' (their statements: YtlfdljakcbfkaabTotals.lean).
  GIVEN WITH THE SEED: the statements are not yours to turn. If you find one false, say at which input.
  Laid BY PROGRAM, IN A SANDBOX (cutbox-rows.mjs): the forced cells as the released guide's own fill.sh prints them over the translation 3a4ca687c2b51a2a… (all of the seat's roots in one cut). By AI agents, Wed Nov 11 2026. No macro, syntax, notation, axiom, sorry.
-/
import Derived.Test.YtlfdljakcbfkaabChecked
import GoSem.Claim
import GoSem.ClaimJoined
import GoSem.ClaimMapViews
import Derived.JoinedTies
import Derived.KernelRfl
namespace Go.Proofs.Ytlfdljakcbfkaab
/- THE CELL 'sum', in the pinned program and in every row, IS THE sha256 OF THE DUMP (.gsa) THAT YtlfdljakcbfkaabProg.lean LOADS. Nothing in Lean hashes anything: it is a label: what it is worth is what the hold of that sum in a sandbox is worth. -/
noncomputable def Try.pinned : Pinned := { name := "ytlfdljakcbfkaab", sum := "3a4ca687c2b51a2a34009ce5382b2b52dba7864bb18964a8f3752f2334cbce25", checked := Try.checked }
namespace Rows
def none {H : Type} : Left H := { results := [], args := [] }

/-- 'laws.FnExactEdgeSketch': WHATEVER THE INPUT: true; the input reads as it did. -/
def fnExactEdgeSketchSpec : ChangeSpec := { name := "fnExactEdgeSketch", fn := fun _ => fun
  | [d1, d2, d3, d4] => { results := [.lit (.bool true)], args := [d1, d2, d3, d4] }
  | _ => none }
def fnExactEdgeSketchRow : OpenClaim := { program := "ytlfdljakcbfkaab", sum := "3a4ca687c2b51a2a34009ce5382b2b52dba7864bb18964a8f3752f2334cbce25", func := "loop.example/g01347/laws.FnExactEdgeSketch", spec := "fnExactEdgeSketch", unfollowed := true, recurses := true, apart := false }
def FnExactEdgeSketchSaid : Prop := fnExactEdgeSketchRow.holds Try.pinned (OpenSpec.ofChange fnExactEdgeSketchSpec)

/-- ITS FALSE NEIGHBOUR: 'it returns false'. Refute it at one input. -/
def fnExactEdgeSketchWrong : ChangeSpec := { name := "fnExactEdgeSketch", fn := fun _ => fun
  | [d1, d2, d3, d4] => { results := [.lit (.bool false)], args := [d1, d2, d3, d4] }
  | _ => none }
def FnExactEdgeSketchWrongFalsely : Prop := fnExactEdgeSketchRow.holds Try.pinned (OpenSpec.ofChange fnExactEdgeSketchWrong)

/-- 'laws.FnExactForestOf': WHATEVER THE INPUT: true; the input reads as it did. -/
def fnExactForestOfSpec : ChangeSpec := { name := "fnExactForestOf", fn := fun _ => fun
  | [d1, d2] => { results := [.lit (.bool true)], args := [d1, d2] }
  | _ => none }
def fnExactForestOfRow : OpenClaim := { program := "ytlfdljakcbfkaab", sum := "3a4ca687c2b51a2a34009ce5382b2b52dba7864bb18964a8f3752f2334cbce25", func := "loop.example/g01347/laws.FnExactForestOf", spec := "fnExactForestOf", unfollowed := true, recurses := true, apart := false }
def FnExactForestOfSaid : Prop := fnExactForestOfRow.holds Try.pinned (OpenSpec.ofChange fnExactForestOfSpec)

/-- ITS FALSE NEIGHBOUR: 'it returns false'. Refute it at one input. -/
def fnExactForestOfWrong : ChangeSpec := { name := "fnExactForestOf", fn := fun _ => fun
  | [d1, d2] => { results := [.lit (.bool false)], args := [d1, d2] }
  | _ => none }
def FnExactForestOfWrongFalsely : Prop := fnExactForestOfRow.holds Try.pinned (OpenSpec.ofChange fnExactForestOfWrong)

/-- 'laws.FnExactJoinSketch': WHATEVER THE INPUT: true; the input reads as it did. -/
def fnExactJoinSketchSpec : ChangeSpec := { name := "fnExactJoinSketch", fn := fun _ => fun
  | [d1, d2] => { results := [.lit (.bool true)], args := [d1, d2] }
  | _ => none }
def fnExactJoinSketchRow : OpenClaim := { program := "ytlfdljakcbfkaab", sum := "3a4ca687c2b51a2a34009ce5382b2b52dba7864bb18964a8f3752f2334cbce25", func := "loop.example/g01347/laws.FnExactJoinSketch", spec := "fnExactJoinSketch", apart := false }
def FnExactJoinSketchSaid : Prop := fnExactJoinSketchRow.holds Try.pinned (OpenSpec.ofChange fnExactJoinSketchSpec)

/-- ITS FALSE NEIGHBOUR: 'it returns false'. Refute it at one input. -/
def fnExactJoinSketchWrong : ChangeSpec := { name := "fnExactJoinSketch", fn := fun _ => fun
  | [d1, d2] => { results := [.lit (.bool false)], args := [d1, d2] }
  | _ => none }
def FnExactJoinSketchWrongFalsely : Prop := fnExactJoinSketchRow.holds Try.pinned (OpenSpec.ofChange fnExactJoinSketchWrong)

/-- 'laws.FnExactEdgeIn': WHATEVER THE INPUT: true; the input reads as it did. -/
def fnExactEdgeInSpec : ChangeSpec := { name := "fnExactEdgeIn", fn := fun _ => fun
  | [d1, d2] => { results := [.lit (.bool true)], args := [d1, d2] }
  | _ => none }
def fnExactEdgeInRow : OpenClaim := { program := "ytlfdljakcbfkaab", sum := "3a4ca687c2b51a2a34009ce5382b2b52dba7864bb18964a8f3752f2334cbce25", func := "loop.example/g01347/laws.FnExactEdgeIn", spec := "fnExactEdgeIn", unfollowed := true, recurses := true, apart := false }
def FnExactEdgeInSaid : Prop := fnExactEdgeInRow.holds Try.pinned (OpenSpec.ofChange fnExactEdgeInSpec)

/-- ITS FALSE NEIGHBOUR: 'it returns false'. Refute it at one input. -/
def fnExactEdgeInWrong : ChangeSpec := { name := "fnExactEdgeIn", fn := fun _ => fun
  | [d1, d2] => { results := [.lit (.bool false)], args := [d1, d2] }
  | _ => none }
def FnExactEdgeInWrongFalsely : Prop := fnExactEdgeInRow.holds Try.pinned (OpenSpec.ofChange fnExactEdgeInWrong)

/-- 'laws.FnExactValidSaved': WHATEVER THE INPUT: true; the input reads as it did. -/
def fnExactValidSavedSpec : ChangeSpec := { name := "fnExactValidSaved", fn := fun _ => fun
  | [d] => { results := [.lit (.bool true)], args := [d] }
  | _ => none }
def fnExactValidSavedRow : OpenClaim := { program := "ytlfdljakcbfkaab", sum := "3a4ca687c2b51a2a34009ce5382b2b52dba7864bb18964a8f3752f2334cbce25", func := "loop.example/g01347/laws.FnExactValidSaved", spec := "fnExactValidSaved", apart := false }
def FnExactValidSavedSaid : Prop := fnExactValidSavedRow.holds Try.pinned (OpenSpec.ofChange fnExactValidSavedSpec)

/-- ITS FALSE NEIGHBOUR: 'it returns false'. Refute it at one input. -/
def fnExactValidSavedWrong : ChangeSpec := { name := "fnExactValidSaved", fn := fun _ => fun
  | [d] => { results := [.lit (.bool false)], args := [d] }
  | _ => none }
def FnExactValidSavedWrongFalsely : Prop := fnExactValidSavedRow.holds Try.pinned (OpenSpec.ofChange fnExactValidSavedWrong)

/-- 'laws.FnExactSameSaved': WHATEVER THE INPUT: true; the input reads as it did. -/
def fnExactSameSavedSpec : ChangeSpec := { name := "fnExactSameSaved", fn := fun _ => fun
  | [d1, d2] => { results := [.lit (.bool true)], args := [d1, d2] }
  | _ => none }
def fnExactSameSavedRow : OpenClaim := { program := "ytlfdljakcbfkaab", sum := "3a4ca687c2b51a2a34009ce5382b2b52dba7864bb18964a8f3752f2334cbce25", func := "loop.example/g01347/laws.FnExactSameSaved", spec := "fnExactSameSaved", unfollowed := true, recurses := true, apart := false }
def FnExactSameSavedSaid : Prop := fnExactSameSavedRow.holds Try.pinned (OpenSpec.ofChange fnExactSameSavedSpec)

/-- ITS FALSE NEIGHBOUR: 'it returns false'. Refute it at one input. -/
def fnExactSameSavedWrong : ChangeSpec := { name := "fnExactSameSaved", fn := fun _ => fun
  | [d1, d2] => { results := [.lit (.bool false)], args := [d1, d2] }
  | _ => none }
def FnExactSameSavedWrongFalsely : Prop := fnExactSameSavedRow.holds Try.pinned (OpenSpec.ofChange fnExactSameSavedWrong)

/-- 'laws.FnExactStoreSaved': WHATEVER THE INPUT: true; the input reads as it did. -/
def fnExactStoreSavedSpec : ChangeSpec := { name := "fnExactStoreSaved", fn := fun _ => fun
  | [d] => { results := [.lit (.bool true)], args := [d] }
  | _ => none }
def fnExactStoreSavedRow : OpenClaim := { program := "ytlfdljakcbfkaab", sum := "3a4ca687c2b51a2a34009ce5382b2b52dba7864bb18964a8f3752f2334cbce25", func := "loop.example/g01347/laws.FnExactStoreSaved", spec := "fnExactStoreSaved", apart := false }
def FnExactStoreSavedSaid : Prop := fnExactStoreSavedRow.holds Try.pinned (OpenSpec.ofChange fnExactStoreSavedSpec)

/-- ITS FALSE NEIGHBOUR: 'it returns false'. Refute it at one input. -/
def fnExactStoreSavedWrong : ChangeSpec := { name := "fnExactStoreSaved", fn := fun _ => fun
  | [d] => { results := [.lit (.bool false)], args := [d] }
  | _ => none }
def FnExactStoreSavedWrongFalsely : Prop := fnExactStoreSavedRow.holds Try.pinned (OpenSpec.ofChange fnExactStoreSavedWrong)

/-- 'laws.FnExactStoreAll': WHATEVER THE INPUT: true; the input reads as it did. -/
def fnExactStoreAllSpec : ChangeSpec := { name := "fnExactStoreAll", fn := fun _ => fun
  | [d] => { results := [.lit (.bool true)], args := [d] }
  | _ => none }
def fnExactStoreAllRow : OpenClaim := { program := "ytlfdljakcbfkaab", sum := "3a4ca687c2b51a2a34009ce5382b2b52dba7864bb18964a8f3752f2334cbce25", func := "loop.example/g01347/laws.FnExactStoreAll", spec := "fnExactStoreAll", inPlace := ["internal/abi.NoEscape"], apart := false }
def FnExactStoreAllSaid : Prop := fnExactStoreAllRow.holds Try.pinned (OpenSpec.ofChange fnExactStoreAllSpec)

/-- ITS FALSE NEIGHBOUR: 'it returns false'. Refute it at one input. -/
def fnExactStoreAllWrong : ChangeSpec := { name := "fnExactStoreAll", fn := fun _ => fun
  | [d] => { results := [.lit (.bool false)], args := [d] }
  | _ => none }
def FnExactStoreAllWrongFalsely : Prop := fnExactStoreAllRow.holds Try.pinned (OpenSpec.ofChange fnExactStoreAllWrong)

/-- 'laws.FnExactTopsOf': WHATEVER THE INPUT: true; the input reads as it did. -/
def fnExactTopsOfSpec : ChangeSpec := { name := "fnExactTopsOf", fn := fun _ => fun
  | [d1, d2] => { results := [.lit (.bool true)], args := [d1, d2] }
  | _ => none }
def fnExactTopsOfRow : OpenClaim := { program := "ytlfdljakcbfkaab", sum := "3a4ca687c2b51a2a34009ce5382b2b52dba7864bb18964a8f3752f2334cbce25", func := "loop.example/g01347/laws.FnExactTopsOf", spec := "fnExactTopsOf", unfollowed := true, recurses := true, apart := false }
def FnExactTopsOfSaid : Prop := fnExactTopsOfRow.holds Try.pinned (OpenSpec.ofChange fnExactTopsOfSpec)

/-- ITS FALSE NEIGHBOUR: 'it returns false'. Refute it at one input. -/
def fnExactTopsOfWrong : ChangeSpec := { name := "fnExactTopsOf", fn := fun _ => fun
  | [d1, d2] => { results := [.lit (.bool false)], args := [d1, d2] }
  | _ => none }
def FnExactTopsOfWrongFalsely : Prop := fnExactTopsOfRow.holds Try.pinned (OpenSpec.ofChange fnExactTopsOfWrong)

/-- 'laws.FnExactPutTop': WHATEVER THE INPUT: true; the input reads as it did. -/
def fnExactPutTopSpec : ChangeSpec := { name := "fnExactPutTop", fn := fun _ => fun
  | [d1, d2] => { results := [.lit (.bool true)], args := [d1, d2] }
  | _ => none }
def fnExactPutTopRow : OpenClaim := { program := "ytlfdljakcbfkaab", sum := "3a4ca687c2b51a2a34009ce5382b2b52dba7864bb18964a8f3752f2334cbce25", func := "loop.example/g01347/laws.FnExactPutTop", spec := "fnExactPutTop", unfollowed := true, recurses := true, apart := false }
def FnExactPutTopSaid : Prop := fnExactPutTopRow.holds Try.pinned (OpenSpec.ofChange fnExactPutTopSpec)

/-- ITS FALSE NEIGHBOUR: 'it returns false'. Refute it at one input. -/
def fnExactPutTopWrong : ChangeSpec := { name := "fnExactPutTop", fn := fun _ => fun
  | [d1, d2] => { results := [.lit (.bool false)], args := [d1, d2] }
  | _ => none }
def FnExactPutTopWrongFalsely : Prop := fnExactPutTopRow.holds Try.pinned (OpenSpec.ofChange fnExactPutTopWrong)

/- THE SECOND FORM. 'bulk': how many values and letters a reading holds, each counted each time it is reached (what is shared counts as often as it is met; a slice's spare places count too). A statement '..UptoSaid' is the law's where the arguments, and the package variables that the reading takes, are together of bulk at most 1048576: NARROWER than '..Said'. Prove '..Said' where nothing that the law and all that it calls make is longer than what came in: it says more and counts as full. Else prove '..UptoSaid'. A law counts once. -/
mutual
def uptoBulk {H : Type} : DataW H → Nat
  | .lit (.string bytes) => bytes.length + 1
  | .lit _ => 1
  | .nil => 1
  | .ptr d => uptoBulk d + 1
  | .slice elems spare => uptoBulkAll elems + uptoBulkAll spare + 1
  | .agg parts => uptoBulkAll parts + 1
  | .iface _ d => uptoBulk d + 1
  | .map entries => uptoBulkEntries entries + 1
  | .held _ => 1
def uptoBulkAll {H : Type} : List (DataW H) → Nat
  | [] => 0
  | d :: r => uptoBulk d + uptoBulkAll r
def uptoBulkEntries {H : Type} : List (Lit × DataW H) → Nat
  | [] => 0
  | x :: r => uptoBulkEntry x + uptoBulkEntries r
def uptoBulkEntry {H : Type} : Lit × DataW H → Nat
  | (.string bytes, d) => bytes.length + uptoBulk d + 1
  | (_, d) => uptoBulk d + 1
 end
def uptoSmall : (H : Type) → List (DataW H) → Bool := fun _ ds => decide (uptoBulkAll ds ≤ 1048576)
def OpenSpec.upto (s : _root_.Go.ChangeSpec) : _root_.Go.OpenSpec := { _root_.Go.OpenSpec.ofChange s with cond := some uptoSmall }

/-- 'laws.FnExactEdgeSketch', WHERE WHAT IT READS IS OF BULK AT MOST 1048576: true; the input reads as it did. -/
def fnExactEdgeSketchUptoRow : OpenClaim := { program := "ytlfdljakcbfkaab", sum := "3a4ca687c2b51a2a34009ce5382b2b52dba7864bb18964a8f3752f2334cbce25", func := "loop.example/g01347/laws.FnExactEdgeSketch", spec := "fnExactEdgeSketch", unfollowed := true, recurses := true, apart := false, narrowed := true }
def FnExactEdgeSketchUptoSaid : Prop := fnExactEdgeSketchUptoRow.holds Try.pinned (OpenSpec.upto fnExactEdgeSketchSpec)

/-- 'laws.FnExactForestOf', WHERE WHAT IT READS IS OF BULK AT MOST 1048576: true; the input reads as it did. -/
def fnExactForestOfUptoRow : OpenClaim := { program := "ytlfdljakcbfkaab", sum := "3a4ca687c2b51a2a34009ce5382b2b52dba7864bb18964a8f3752f2334cbce25", func := "loop.example/g01347/laws.FnExactForestOf", spec := "fnExactForestOf", unfollowed := true, recurses := true, apart := false, narrowed := true }
def FnExactForestOfUptoSaid : Prop := fnExactForestOfUptoRow.holds Try.pinned (OpenSpec.upto fnExactForestOfSpec)

/-- 'laws.FnExactJoinSketch', WHERE WHAT IT READS IS OF BULK AT MOST 1048576: true; the input reads as it did. -/
def fnExactJoinSketchUptoRow : OpenClaim := { program := "ytlfdljakcbfkaab", sum := "3a4ca687c2b51a2a34009ce5382b2b52dba7864bb18964a8f3752f2334cbce25", func := "loop.example/g01347/laws.FnExactJoinSketch", spec := "fnExactJoinSketch", apart := false, narrowed := true }
def FnExactJoinSketchUptoSaid : Prop := fnExactJoinSketchUptoRow.holds Try.pinned (OpenSpec.upto fnExactJoinSketchSpec)

/-- 'laws.FnExactEdgeIn', WHERE WHAT IT READS IS OF BULK AT MOST 1048576: true; the input reads as it did. -/
def fnExactEdgeInUptoRow : OpenClaim := { program := "ytlfdljakcbfkaab", sum := "3a4ca687c2b51a2a34009ce5382b2b52dba7864bb18964a8f3752f2334cbce25", func := "loop.example/g01347/laws.FnExactEdgeIn", spec := "fnExactEdgeIn", unfollowed := true, recurses := true, apart := false, narrowed := true }
def FnExactEdgeInUptoSaid : Prop := fnExactEdgeInUptoRow.holds Try.pinned (OpenSpec.upto fnExactEdgeInSpec)

/-- 'laws.FnExactValidSaved', WHERE WHAT IT READS IS OF BULK AT MOST 1048576: true; the input reads as it did. -/
def fnExactValidSavedUptoRow : OpenClaim := { program := "ytlfdljakcbfkaab", sum := "3a4ca687c2b51a2a34009ce5382b2b52dba7864bb18964a8f3752f2334cbce25", func := "loop.example/g01347/laws.FnExactValidSaved", spec := "fnExactValidSaved", apart := false, narrowed := true }
def FnExactValidSavedUptoSaid : Prop := fnExactValidSavedUptoRow.holds Try.pinned (OpenSpec.upto fnExactValidSavedSpec)

/-- 'laws.FnExactSameSaved', WHERE WHAT IT READS IS OF BULK AT MOST 1048576: true; the input reads as it did. -/
def fnExactSameSavedUptoRow : OpenClaim := { program := "ytlfdljakcbfkaab", sum := "3a4ca687c2b51a2a34009ce5382b2b52dba7864bb18964a8f3752f2334cbce25", func := "loop.example/g01347/laws.FnExactSameSaved", spec := "fnExactSameSaved", unfollowed := true, recurses := true, apart := false, narrowed := true }
def FnExactSameSavedUptoSaid : Prop := fnExactSameSavedUptoRow.holds Try.pinned (OpenSpec.upto fnExactSameSavedSpec)

/-- 'laws.FnExactStoreSaved', WHERE WHAT IT READS IS OF BULK AT MOST 1048576: true; the input reads as it did. -/
def fnExactStoreSavedUptoRow : OpenClaim := { program := "ytlfdljakcbfkaab", sum := "3a4ca687c2b51a2a34009ce5382b2b52dba7864bb18964a8f3752f2334cbce25", func := "loop.example/g01347/laws.FnExactStoreSaved", spec := "fnExactStoreSaved", apart := false, narrowed := true }
def FnExactStoreSavedUptoSaid : Prop := fnExactStoreSavedUptoRow.holds Try.pinned (OpenSpec.upto fnExactStoreSavedSpec)

/-- 'laws.FnExactStoreAll', WHERE WHAT IT READS IS OF BULK AT MOST 1048576: true; the input reads as it did. -/
def fnExactStoreAllUptoRow : OpenClaim := { program := "ytlfdljakcbfkaab", sum := "3a4ca687c2b51a2a34009ce5382b2b52dba7864bb18964a8f3752f2334cbce25", func := "loop.example/g01347/laws.FnExactStoreAll", spec := "fnExactStoreAll", inPlace := ["internal/abi.NoEscape"], apart := false, narrowed := true }
def FnExactStoreAllUptoSaid : Prop := fnExactStoreAllUptoRow.holds Try.pinned (OpenSpec.upto fnExactStoreAllSpec)

/-- 'laws.FnExactTopsOf', WHERE WHAT IT READS IS OF BULK AT MOST 1048576: true; the input reads as it did. -/
def fnExactTopsOfUptoRow : OpenClaim := { program := "ytlfdljakcbfkaab", sum := "3a4ca687c2b51a2a34009ce5382b2b52dba7864bb18964a8f3752f2334cbce25", func := "loop.example/g01347/laws.FnExactTopsOf", spec := "fnExactTopsOf", unfollowed := true, recurses := true, apart := false, narrowed := true }
def FnExactTopsOfUptoSaid : Prop := fnExactTopsOfUptoRow.holds Try.pinned (OpenSpec.upto fnExactTopsOfSpec)

/-- 'laws.FnExactPutTop', WHERE WHAT IT READS IS OF BULK AT MOST 1048576: true; the input reads as it did. -/
def fnExactPutTopUptoRow : OpenClaim := { program := "ytlfdljakcbfkaab", sum := "3a4ca687c2b51a2a34009ce5382b2b52dba7864bb18964a8f3752f2334cbce25", func := "loop.example/g01347/laws.FnExactPutTop", spec := "fnExactPutTop", unfollowed := true, recurses := true, apart := false, narrowed := true }
def FnExactPutTopUptoSaid : Prop := fnExactPutTopUptoRow.holds Try.pinned (OpenSpec.upto fnExactPutTopSpec)

end Rows
end Go.Proofs.Ytlfdljakcbfkaab
