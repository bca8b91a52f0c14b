/-
  No cell of these rows narrows 'for every input' (looked for: loops, veiled, ifaces, maps, wideKeys, modest, calm, conditions, laid).
  DERIVED. THE GIVEN ROWS OF THIS SEAT. 6 by the template 'for every input the law returns true; each argument reads behind the call as it read before'; 0 by the template 'total and deterministic' (their statements: YtedejnehiihmkaaTotals.lean).
  GIVEN WITH THE SEED: the statements are not yours to turn. If you find one false, say at which input.
  Laid BY PROGRAM, IN A SANDBOX (cutbox-rows.mjs): the forced cells as the released guide's own fill.sh prints them over the translation 6bcb10707abb9d22… (all of the seat's roots in one cut). By AI agents, Wed Nov 11 2026. No macro, syntax, notation, axiom, sorry.
-/
import Derived.Test.YtedejnehiihmkaaChecked
import GoSem.Claim
import GoSem.ClaimJoined
import GoSem.ClaimMapViews
import Derived.JoinedTies
import Derived.KernelRfl
namespace Go.Proofs.Ytedejnehiihmkaa
/- THE CELL 'sum', in the pinned program and in every row, IS THE sha256 OF THE DUMP (.gsa) THAT YtedejnehiihmkaaProg.lean LOADS. Nothing in Lean hashes anything: it is a label: what it is worth is what the hold of that sum in a sandbox is worth. -/
noncomputable def Try.pinned : Pinned := { name := "ytedejnehiihmkaa", sum := "6bcb10707abb9d22fa49ac2d552444934085566928a398f74023be598367ba81", checked := Try.checked }
namespace Rows
def none {H : Type} : Left H := { results := [], args := [] }

/-- 'laws.FnExactSignedAt': WHATEVER THE INPUT: true; the input reads as it did. -/
def fnExactSignedAtSpec : ChangeSpec := { name := "fnExactSignedAt", fn := fun _ => fun
  | [d1, d2] => { results := [.lit (.bool true)], args := [d1, d2] }
  | _ => none }
def fnExactSignedAtRow : OpenClaim := { program := "ytedejnehiihmkaa", sum := "6bcb10707abb9d22fa49ac2d552444934085566928a398f74023be598367ba81", func := "loop.example/g01347/laws.FnExactSignedAt", spec := "fnExactSignedAt", unfollowed := true, recurses := true, apart := false }
def FnExactSignedAtSaid : Prop := fnExactSignedAtRow.holds Try.pinned (OpenSpec.ofChange fnExactSignedAtSpec)

/-- ITS FALSE NEIGHBOUR: 'it returns false'. Refute it at one input. -/
def fnExactSignedAtWrong : ChangeSpec := { name := "fnExactSignedAt", fn := fun _ => fun
  | [d1, d2] => { results := [.lit (.bool false)], args := [d1, d2] }
  | _ => none }
def FnExactSignedAtWrongFalsely : Prop := fnExactSignedAtRow.holds Try.pinned (OpenSpec.ofChange fnExactSignedAtWrong)

/-- 'laws.FnExactSignedNorm': WHATEVER THE INPUT: true; the input reads as it did. -/
def fnExactSignedNormSpec : ChangeSpec := { name := "fnExactSignedNorm", fn := fun _ => fun
  | [d] => { results := [.lit (.bool true)], args := [d] }
  | _ => none }
def fnExactSignedNormRow : OpenClaim := { program := "ytedejnehiihmkaa", sum := "6bcb10707abb9d22fa49ac2d552444934085566928a398f74023be598367ba81", func := "loop.example/g01347/laws.FnExactSignedNorm", spec := "fnExactSignedNorm", unfollowed := true, recurses := true, apart := false }
def FnExactSignedNormSaid : Prop := fnExactSignedNormRow.holds Try.pinned (OpenSpec.ofChange fnExactSignedNormSpec)

/-- ITS FALSE NEIGHBOUR: 'it returns false'. Refute it at one input. -/
def fnExactSignedNormWrong : ChangeSpec := { name := "fnExactSignedNorm", fn := fun _ => fun
  | [d] => { results := [.lit (.bool false)], args := [d] }
  | _ => none }
def FnExactSignedNormWrongFalsely : Prop := fnExactSignedNormRow.holds Try.pinned (OpenSpec.ofChange fnExactSignedNormWrong)

/-- 'laws.FnExactCorrectedAt': WHATEVER THE INPUT: true; the input reads as it did. -/
def fnExactCorrectedAtSpec : ChangeSpec := { name := "fnExactCorrectedAt", fn := fun _ => fun
  | [d1, d2] => { results := [.lit (.bool true)], args := [d1, d2] }
  | _ => none }
def fnExactCorrectedAtRow : OpenClaim := { program := "ytedejnehiihmkaa", sum := "6bcb10707abb9d22fa49ac2d552444934085566928a398f74023be598367ba81", func := "loop.example/g01347/laws.FnExactCorrectedAt", spec := "fnExactCorrectedAt", unfollowed := true, recurses := true, apart := false }
def FnExactCorrectedAtSaid : Prop := fnExactCorrectedAtRow.holds Try.pinned (OpenSpec.ofChange fnExactCorrectedAtSpec)

/-- ITS FALSE NEIGHBOUR: 'it returns false'. Refute it at one input. -/
def fnExactCorrectedAtWrong : ChangeSpec := { name := "fnExactCorrectedAt", fn := fun _ => fun
  | [d1, d2] => { results := [.lit (.bool false)], args := [d1, d2] }
  | _ => none }
def FnExactCorrectedAtWrongFalsely : Prop := fnExactCorrectedAtRow.holds Try.pinned (OpenSpec.ofChange fnExactCorrectedAtWrong)

/-- 'laws.FnExactHashRows': WHATEVER THE INPUT: true; the input reads as it did. -/
def fnExactHashRowsSpec : ChangeSpec := { name := "fnExactHashRows", fn := fun _ => fun
  | [d1, d2] => { results := [.lit (.bool true)], args := [d1, d2] }
  | _ => none }
def fnExactHashRowsRow : OpenClaim := { program := "ytedejnehiihmkaa", sum := "6bcb10707abb9d22fa49ac2d552444934085566928a398f74023be598367ba81", func := "loop.example/g01347/laws.FnExactHashRows", spec := "fnExactHashRows", apart := false }
def FnExactHashRowsSaid : Prop := fnExactHashRowsRow.holds Try.pinned (OpenSpec.ofChange fnExactHashRowsSpec)

/-- ITS FALSE NEIGHBOUR: 'it returns false'. Refute it at one input. -/
def fnExactHashRowsWrong : ChangeSpec := { name := "fnExactHashRows", fn := fun _ => fun
  | [d1, d2] => { results := [.lit (.bool false)], args := [d1, d2] }
  | _ => none }
def FnExactHashRowsWrongFalsely : Prop := fnExactHashRowsRow.holds Try.pinned (OpenSpec.ofChange fnExactHashRowsWrong)

/-- 'laws.FnExactJumpHome': WHATEVER THE INPUT: true; the input reads as it did. -/
def fnExactJumpHomeSpec : ChangeSpec := { name := "fnExactJumpHome", fn := fun _ => fun
  | [d1, d2] => { results := [.lit (.bool true)], args := [d1, d2] }
  | _ => none }
def fnExactJumpHomeRow : OpenClaim := { program := "ytedejnehiihmkaa", sum := "6bcb10707abb9d22fa49ac2d552444934085566928a398f74023be598367ba81", func := "loop.example/g01347/laws.FnExactJumpHome", spec := "fnExactJumpHome", inPlace := ["math.archFloor", "math.Float64bits", "math.Float64frombits", "math.archTrunc"], apart := false }
def FnExactJumpHomeSaid : Prop := fnExactJumpHomeRow.holds Try.pinned (OpenSpec.ofChange fnExactJumpHomeSpec)

/-- ITS FALSE NEIGHBOUR: 'it returns false'. Refute it at one input. -/
def fnExactJumpHomeWrong : ChangeSpec := { name := "fnExactJumpHome", fn := fun _ => fun
  | [d1, d2] => { results := [.lit (.bool false)], args := [d1, d2] }
  | _ => none }
def FnExactJumpHomeWrongFalsely : Prop := fnExactJumpHomeRow.holds Try.pinned (OpenSpec.ofChange fnExactJumpHomeWrong)

/-- 'laws.FnSigned': WHATEVER THE INPUT: true; the input reads as it did. -/
def fnSignedSpec : ChangeSpec := { name := "fnSigned", fn := fun _ => fun
  | [d1, d2] => { results := [.lit (.bool true)], args := [d1, d2] }
  | _ => none }
def fnSignedRow : OpenClaim := { program := "ytedejnehiihmkaa", sum := "6bcb10707abb9d22fa49ac2d552444934085566928a398f74023be598367ba81", func := "loop.example/g01347/laws.FnSigned", spec := "fnSigned", unfollowed := true, recurses := true, apart := false }
def FnSignedSaid : Prop := fnSignedRow.holds Try.pinned (OpenSpec.ofChange fnSignedSpec)

/-- ITS FALSE NEIGHBOUR: 'it returns false'. Refute it at one input. -/
def fnSignedWrong : ChangeSpec := { name := "fnSigned", fn := fun _ => fun
  | [d1, d2] => { results := [.lit (.bool false)], args := [d1, d2] }
  | _ => none }
def FnSignedWrongFalsely : Prop := fnSignedRow.holds Try.pinned (OpenSpec.ofChange fnSignedWrong)

/- THE SECOND FORM. 'bulk': how many values and letters a reading holds, each counted each time it is reached (what is shared counts as often as it is met; a slice's spare places count too). A statement '..UptoSaid' is the law's where the arguments, and the package variables that the reading takes, are together of bulk at most 1048576: NARROWER than '..Said'. Prove '..Said' where nothing that the law and all that it calls make is longer than what came in: it says more and counts as full. Else prove '..UptoSaid'. A law counts once. -/
mutual
def uptoBulk {H : Type} : DataW H → Nat
  | .lit (.string bytes) => bytes.length + 1
  | .lit _ => 1
  | .nil => 1
  | .ptr d => uptoBulk d + 1
  | .slice elems spare => uptoBulkAll elems + uptoBulkAll spare + 1
  | .agg parts => uptoBulkAll parts + 1
  | .iface _ d => uptoBulk d + 1
  | .map entries => uptoBulkEntries entries + 1
  | .held _ => 1
def uptoBulkAll {H : Type} : List (DataW H) → Nat
  | [] => 0
  | d :: r => uptoBulk d + uptoBulkAll r
def uptoBulkEntries {H : Type} : List (Lit × DataW H) → Nat
  | [] => 0
  | x :: r => uptoBulkEntry x + uptoBulkEntries r
def uptoBulkEntry {H : Type} : Lit × DataW H → Nat
  | (.string bytes, d) => bytes.length + uptoBulk d + 1
  | (_, d) => uptoBulk d + 1
 end
def uptoSmall : (H : Type) → List (DataW H) → Bool := fun _ ds => decide (uptoBulkAll ds ≤ 1048576)
def OpenSpec.upto (s : _root_.Go.ChangeSpec) : _root_.Go.OpenSpec := { _root_.Go.OpenSpec.ofChange s with cond := some uptoSmall }

/-- 'laws.FnExactSignedAt', WHERE WHAT IT READS IS OF BULK AT MOST 1048576: true; the input reads as it did. -/
def fnExactSignedAtUptoRow : OpenClaim := { program := "ytedejnehiihmkaa", sum := "6bcb10707abb9d22fa49ac2d552444934085566928a398f74023be598367ba81", func := "loop.example/g01347/laws.FnExactSignedAt", spec := "fnExactSignedAt", unfollowed := true, recurses := true, apart := false, narrowed := true }
def FnExactSignedAtUptoSaid : Prop := fnExactSignedAtUptoRow.holds Try.pinned (OpenSpec.upto fnExactSignedAtSpec)

/-- 'laws.FnExactSignedNorm', WHERE WHAT IT READS IS OF BULK AT MOST 1048576: true; the input reads as it did. -/
def fnExactSignedNormUptoRow : OpenClaim := { program := "ytedejnehiihmkaa", sum := "6bcb10707abb9d22fa49ac2d552444934085566928a398f74023be598367ba81", func := "loop.example/g01347/laws.FnExactSignedNorm", spec := "fnExactSignedNorm", unfollowed := true, recurses := true, apart := false, narrowed := true }
def FnExactSignedNormUptoSaid : Prop := fnExactSignedNormUptoRow.holds Try.pinned (OpenSpec.upto fnExactSignedNormSpec)

/-- 'laws.FnExactCorrectedAt', WHERE WHAT IT READS IS OF BULK AT MOST 1048576: true; the input reads as it did. -/
def fnExactCorrectedAtUptoRow : OpenClaim := { program := "ytedejnehiihmkaa", sum := "6bcb10707abb9d22fa49ac2d552444934085566928a398f74023be598367ba81", func := "loop.example/g01347/laws.FnExactCorrectedAt", spec := "fnExactCorrectedAt", unfollowed := true, recurses := true, apart := false, narrowed := true }
def FnExactCorrectedAtUptoSaid : Prop := fnExactCorrectedAtUptoRow.holds Try.pinned (OpenSpec.upto fnExactCorrectedAtSpec)

/-- 'laws.FnExactHashRows', WHERE WHAT IT READS IS OF BULK AT MOST 1048576: true; the input reads as it did. -/
def fnExactHashRowsUptoRow : OpenClaim := { program := "ytedejnehiihmkaa", sum := "6bcb10707abb9d22fa49ac2d552444934085566928a398f74023be598367ba81", func := "loop.example/g01347/laws.FnExactHashRows", spec := "fnExactHashRows", apart := false, narrowed := true }
def FnExactHashRowsUptoSaid : Prop := fnExactHashRowsUptoRow.holds Try.pinned (OpenSpec.upto fnExactHashRowsSpec)

/-- 'laws.FnExactJumpHome', WHERE WHAT IT READS IS OF BULK AT MOST 1048576: true; the input reads as it did. -/
def fnExactJumpHomeUptoRow : OpenClaim := { program := "ytedejnehiihmkaa", sum := "6bcb10707abb9d22fa49ac2d552444934085566928a398f74023be598367ba81", func := "loop.example/g01347/laws.FnExactJumpHome", spec := "fnExactJumpHome", inPlace := ["math.archFloor", "math.Float64bits", "math.Float64frombits", "math.archTrunc"], apart := false, narrowed := true }
def FnExactJumpHomeUptoSaid : Prop := fnExactJumpHomeUptoRow.holds Try.pinned (OpenSpec.upto fnExactJumpHomeSpec)

/-- 'laws.FnSigned', WHERE WHAT IT READS IS OF BULK AT MOST 1048576: true; the input reads as it did. -/
def fnSignedUptoRow : OpenClaim := { program := "ytedejnehiihmkaa", sum := "6bcb10707abb9d22fa49ac2d552444934085566928a398f74023be598367ba81", func := "loop.example/g01347/laws.FnSigned", spec := "fnSigned", unfollowed := true, recurses := true, apart := false, narrowed := true }
def FnSignedUptoSaid : Prop := fnSignedUptoRow.holds Try.pinned (OpenSpec.upto fnSignedSpec)

end Rows
end Go.Proofs.Ytedejnehiihmkaa
