/-
  No cell of these rows narrows 'for every input' (looked for: loops, veiled, ifaces, maps, wideKeys, modest, calm, conditions, laid).
  DERIVED. THE GIVEN ROWS OF THIS SEAT. 12 by the template 'for every input the law returns true; each argument reads behind the call as it read before'; 0 by the template 'total and deterministic' (their statements: YtdbllnmhlfkhbabTotals.lean).
  GIVEN WITH THE SEED: the statements are not yours to turn. If you find one false, say at which input.
  Laid BY PROGRAM, IN A SANDBOX (cutbox-rows.mjs): the forced cells as the released guide's own fill.sh prints them over the translation 47d9192b15111786… (all of the seat's roots in one cut). By AI agents, Wed Nov 11 2026. No macro, syntax, notation, axiom, sorry.
-/
import Derived.Test.YtdbllnmhlfkhbabChecked
import GoSem.Claim
import GoSem.ClaimJoined
import GoSem.ClaimMapViews
import Derived.JoinedTies
import Derived.KernelRfl
namespace Go.Proofs.Ytdbllnmhlfkhbab
/- THE CELL 'sum', in the pinned program and in every row, IS THE sha256 OF THE DUMP (.gsa) THAT YtdbllnmhlfkhbabProg.lean LOADS. Nothing in Lean hashes anything: it is a label: what it is worth is what the hold of that sum in a sandbox is worth. -/
noncomputable def Try.pinned : Pinned := { name := "ytdbllnmhlfkhbab", sum := "47d9192b151117864de6a7f2ea06f4fec66e6c729cd5df5dd009b5dda4903468", checked := Try.checked }
namespace Rows
def none {H : Type} : Left H := { results := [], args := [] }

/-- 'laws.FnExactHashRows': WHATEVER THE INPUT: true; the input reads as it did. -/
def fnExactHashRowsSpec : ChangeSpec := { name := "fnExactHashRows", fn := fun _ => fun
  | [d1, d2] => { results := [.lit (.bool true)], args := [d1, d2] }
  | _ => none }
def fnExactHashRowsRow : OpenClaim := { program := "ytdbllnmhlfkhbab", sum := "47d9192b151117864de6a7f2ea06f4fec66e6c729cd5df5dd009b5dda4903468", func := "loop.example/g01347/laws.FnExactHashRows", spec := "fnExactHashRows", apart := false }
def FnExactHashRowsSaid : Prop := fnExactHashRowsRow.holds Try.pinned (OpenSpec.ofChange fnExactHashRowsSpec)

/-- ITS FALSE NEIGHBOUR: 'it returns false'. Refute it at one input. -/
def fnExactHashRowsWrong : ChangeSpec := { name := "fnExactHashRows", fn := fun _ => fun
  | [d1, d2] => { results := [.lit (.bool false)], args := [d1, d2] }
  | _ => none }
def FnExactHashRowsWrongFalsely : Prop := fnExactHashRowsRow.holds Try.pinned (OpenSpec.ofChange fnExactHashRowsWrong)

/-- 'laws.FnExactLeastHash': WHATEVER THE INPUT: true; the input reads as it did. -/
def fnExactLeastHashSpec : ChangeSpec := { name := "fnExactLeastHash", fn := fun _ => fun
  | [d1, d2] => { results := [.lit (.bool true)], args := [d1, d2] }
  | _ => none }
def fnExactLeastHashRow : OpenClaim := { program := "ytdbllnmhlfkhbab", sum := "47d9192b151117864de6a7f2ea06f4fec66e6c729cd5df5dd009b5dda4903468", func := "loop.example/g01347/laws.FnExactLeastHash", spec := "fnExactLeastHash", unfollowed := true, recurses := true, apart := false }
def FnExactLeastHashSaid : Prop := fnExactLeastHashRow.holds Try.pinned (OpenSpec.ofChange fnExactLeastHashSpec)

/-- ITS FALSE NEIGHBOUR: 'it returns false'. Refute it at one input. -/
def fnExactLeastHashWrong : ChangeSpec := { name := "fnExactLeastHash", fn := fun _ => fun
  | [d1, d2] => { results := [.lit (.bool false)], args := [d1, d2] }
  | _ => none }
def FnExactLeastHashWrongFalsely : Prop := fnExactLeastHashRow.holds Try.pinned (OpenSpec.ofChange fnExactLeastHashWrong)

/-- 'laws.FnExactSpreadOfKeys': WHATEVER THE INPUT: true; the input reads as it did. -/
def fnExactSpreadOfKeysSpec : ChangeSpec := { name := "fnExactSpreadOfKeys", fn := fun _ => fun
  | [d1, d2, d3] => { results := [.lit (.bool true)], args := [d1, d2, d3] }
  | _ => none }
def fnExactSpreadOfKeysRow : OpenClaim := { program := "ytdbllnmhlfkhbab", sum := "47d9192b151117864de6a7f2ea06f4fec66e6c729cd5df5dd009b5dda4903468", func := "loop.example/g01347/laws.FnExactSpreadOfKeys", spec := "fnExactSpreadOfKeys", apart := false }
def FnExactSpreadOfKeysSaid : Prop := fnExactSpreadOfKeysRow.holds Try.pinned (OpenSpec.ofChange fnExactSpreadOfKeysSpec)

/-- ITS FALSE NEIGHBOUR: 'it returns false'. Refute it at one input. -/
def fnExactSpreadOfKeysWrong : ChangeSpec := { name := "fnExactSpreadOfKeys", fn := fun _ => fun
  | [d1, d2, d3] => { results := [.lit (.bool false)], args := [d1, d2, d3] }
  | _ => none }
def FnExactSpreadOfKeysWrongFalsely : Prop := fnExactSpreadOfKeysRow.holds Try.pinned (OpenSpec.ofChange fnExactSpreadOfKeysWrong)

/-- 'laws.FnExactMeetingsOf': WHATEVER THE INPUT: true; the input reads as it did. -/
def fnExactMeetingsOfSpec : ChangeSpec := { name := "fnExactMeetingsOf", fn := fun _ => fun
  | [d1, d2, d3] => { results := [.lit (.bool true)], args := [d1, d2, d3] }
  | _ => none }
def fnExactMeetingsOfRow : OpenClaim := { program := "ytdbllnmhlfkhbab", sum := "47d9192b151117864de6a7f2ea06f4fec66e6c729cd5df5dd009b5dda4903468", func := "loop.example/g01347/laws.FnExactMeetingsOf", spec := "fnExactMeetingsOf", apart := false }
def FnExactMeetingsOfSaid : Prop := fnExactMeetingsOfRow.holds Try.pinned (OpenSpec.ofChange fnExactMeetingsOfSpec)

/-- ITS FALSE NEIGHBOUR: 'it returns false'. Refute it at one input. -/
def fnExactMeetingsOfWrong : ChangeSpec := { name := "fnExactMeetingsOf", fn := fun _ => fun
  | [d1, d2, d3] => { results := [.lit (.bool false)], args := [d1, d2, d3] }
  | _ => none }
def FnExactMeetingsOfWrongFalsely : Prop := fnExactMeetingsOfRow.holds Try.pinned (OpenSpec.ofChange fnExactMeetingsOfWrong)

/-- 'laws.FnExactChiOfKeys': WHATEVER THE INPUT: true; the input reads as it did. -/
def fnExactChiOfKeysSpec : ChangeSpec := { name := "fnExactChiOfKeys", fn := fun _ => fun
  | [d1, d2, d3] => { results := [.lit (.bool true)], args := [d1, d2, d3] }
  | _ => none }
def fnExactChiOfKeysRow : OpenClaim := { program := "ytdbllnmhlfkhbab", sum := "47d9192b151117864de6a7f2ea06f4fec66e6c729cd5df5dd009b5dda4903468", func := "loop.example/g01347/laws.FnExactChiOfKeys", spec := "fnExactChiOfKeys", apart := false }
def FnExactChiOfKeysSaid : Prop := fnExactChiOfKeysRow.holds Try.pinned (OpenSpec.ofChange fnExactChiOfKeysSpec)

/-- ITS FALSE NEIGHBOUR: 'it returns false'. Refute it at one input. -/
def fnExactChiOfKeysWrong : ChangeSpec := { name := "fnExactChiOfKeys", fn := fun _ => fun
  | [d1, d2, d3] => { results := [.lit (.bool false)], args := [d1, d2, d3] }
  | _ => none }
def FnExactChiOfKeysWrongFalsely : Prop := fnExactChiOfKeysRow.holds Try.pinned (OpenSpec.ofChange fnExactChiOfKeysWrong)

/-- 'laws.FnExactHomeOf': WHATEVER THE INPUT: true; the input reads as it did. -/
def fnExactHomeOfSpec : ChangeSpec := { name := "fnExactHomeOf", fn := fun _ => fun
  | [d1, d2] => { results := [.lit (.bool true)], args := [d1, d2] }
  | _ => none }
def fnExactHomeOfRow : OpenClaim := { program := "ytdbllnmhlfkhbab", sum := "47d9192b151117864de6a7f2ea06f4fec66e6c729cd5df5dd009b5dda4903468", func := "loop.example/g01347/laws.FnExactHomeOf", spec := "fnExactHomeOf", unfollowed := true, recurses := true, apart := false }
def FnExactHomeOfSaid : Prop := fnExactHomeOfRow.holds Try.pinned (OpenSpec.ofChange fnExactHomeOfSpec)

/-- ITS FALSE NEIGHBOUR: 'it returns false'. Refute it at one input. -/
def fnExactHomeOfWrong : ChangeSpec := { name := "fnExactHomeOf", fn := fun _ => fun
  | [d1, d2] => { results := [.lit (.bool false)], args := [d1, d2] }
  | _ => none }
def FnExactHomeOfWrongFalsely : Prop := fnExactHomeOfRow.holds Try.pinned (OpenSpec.ofChange fnExactHomeOfWrong)

/-- 'laws.FnExactRingHome': WHATEVER THE INPUT: true; the input reads as it did. -/
def fnExactRingHomeSpec : ChangeSpec := { name := "fnExactRingHome", fn := fun _ => fun
  | [d1, d2, d3] => { results := [.lit (.bool true)], args := [d1, d2, d3] }
  | _ => none }
def fnExactRingHomeRow : OpenClaim := { program := "ytdbllnmhlfkhbab", sum := "47d9192b151117864de6a7f2ea06f4fec66e6c729cd5df5dd009b5dda4903468", func := "loop.example/g01347/laws.FnExactRingHome", spec := "fnExactRingHome", apart := false }
def FnExactRingHomeSaid : Prop := fnExactRingHomeRow.holds Try.pinned (OpenSpec.ofChange fnExactRingHomeSpec)

/-- ITS FALSE NEIGHBOUR: 'it returns false'. Refute it at one input. -/
def fnExactRingHomeWrong : ChangeSpec := { name := "fnExactRingHome", fn := fun _ => fun
  | [d1, d2, d3] => { results := [.lit (.bool false)], args := [d1, d2, d3] }
  | _ => none }
def FnExactRingHomeWrongFalsely : Prop := fnExactRingHomeRow.holds Try.pinned (OpenSpec.ofChange fnExactRingHomeWrong)

/-- 'laws.FnExactJumpHome': WHATEVER THE INPUT: true; the input reads as it did. -/
def fnExactJumpHomeSpec : ChangeSpec := { name := "fnExactJumpHome", fn := fun _ => fun
  | [d1, d2] => { results := [.lit (.bool true)], args := [d1, d2] }
  | _ => none }
def fnExactJumpHomeRow : OpenClaim := { program := "ytdbllnmhlfkhbab", sum := "47d9192b151117864de6a7f2ea06f4fec66e6c729cd5df5dd009b5dda4903468", func := "loop.example/g01347/laws.FnExactJumpHome", spec := "fnExactJumpHome", inPlace := ["math.archFloor", "math.Float64bits", "math.Float64frombits", "math.archTrunc"], apart := false }
def FnExactJumpHomeSaid : Prop := fnExactJumpHomeRow.holds Try.pinned (OpenSpec.ofChange fnExactJumpHomeSpec)

/-- ITS FALSE NEIGHBOUR: 'it returns false'. Refute it at one input. -/
def fnExactJumpHomeWrong : ChangeSpec := { name := "fnExactJumpHome", fn := fun _ => fun
  | [d1, d2] => { results := [.lit (.bool false)], args := [d1, d2] }
  | _ => none }
def FnExactJumpHomeWrongFalsely : Prop := fnExactJumpHomeRow.holds Try.pinned (OpenSpec.ofChange fnExactJumpHomeWrong)

/-- 'laws.FnExactSwapPlace': WHATEVER THE INPUT: true; the input reads as it did. -/
def fnExactSwapPlaceSpec : ChangeSpec := { name := "fnExactSwapPlace", fn := fun _ => fun
  | [d1, d2, d3] => { results := [.lit (.bool true)], args := [d1, d2, d3] }
  | _ => none }
def fnExactSwapPlaceRow : OpenClaim := { program := "ytdbllnmhlfkhbab", sum := "47d9192b151117864de6a7f2ea06f4fec66e6c729cd5df5dd009b5dda4903468", func := "loop.example/g01347/laws.FnExactSwapPlace", spec := "fnExactSwapPlace", unfollowed := true, recurses := true, apart := false }
def FnExactSwapPlaceSaid : Prop := fnExactSwapPlaceRow.holds Try.pinned (OpenSpec.ofChange fnExactSwapPlaceSpec)

/-- ITS FALSE NEIGHBOUR: 'it returns false'. Refute it at one input. -/
def fnExactSwapPlaceWrong : ChangeSpec := { name := "fnExactSwapPlace", fn := fun _ => fun
  | [d1, d2, d3] => { results := [.lit (.bool false)], args := [d1, d2, d3] }
  | _ => none }
def FnExactSwapPlaceWrongFalsely : Prop := fnExactSwapPlaceRow.holds Try.pinned (OpenSpec.ofChange fnExactSwapPlaceWrong)

/-- 'laws.FnExactBackPlace': WHATEVER THE INPUT: true; the input reads as it did. -/
def fnExactBackPlaceSpec : ChangeSpec := { name := "fnExactBackPlace", fn := fun _ => fun
  | [d1, d2, d3] => { results := [.lit (.bool true)], args := [d1, d2, d3] }
  | _ => none }
def fnExactBackPlaceRow : OpenClaim := { program := "ytdbllnmhlfkhbab", sum := "47d9192b151117864de6a7f2ea06f4fec66e6c729cd5df5dd009b5dda4903468", func := "loop.example/g01347/laws.FnExactBackPlace", spec := "fnExactBackPlace", unfollowed := true, recurses := true, apart := false }
def FnExactBackPlaceSaid : Prop := fnExactBackPlaceRow.holds Try.pinned (OpenSpec.ofChange fnExactBackPlaceSpec)

/-- ITS FALSE NEIGHBOUR: 'it returns false'. Refute it at one input. -/
def fnExactBackPlaceWrong : ChangeSpec := { name := "fnExactBackPlace", fn := fun _ => fun
  | [d1, d2, d3] => { results := [.lit (.bool false)], args := [d1, d2, d3] }
  | _ => none }
def FnExactBackPlaceWrongFalsely : Prop := fnExactBackPlaceRow.holds Try.pinned (OpenSpec.ofChange fnExactBackPlaceWrong)

/-- 'laws.FnExactLikeShare': WHATEVER THE INPUT: true; the input reads as it did. -/
def fnExactLikeShareSpec : ChangeSpec := { name := "fnExactLikeShare", fn := fun _ => fun
  | [d1, d2, d3] => { results := [.lit (.bool true)], args := [d1, d2, d3] }
  | _ => none }
def fnExactLikeShareRow : OpenClaim := { program := "ytdbllnmhlfkhbab", sum := "47d9192b151117864de6a7f2ea06f4fec66e6c729cd5df5dd009b5dda4903468", func := "loop.example/g01347/laws.FnExactLikeShare", spec := "fnExactLikeShare", unfollowed := true, recurses := true, apart := false }
def FnExactLikeShareSaid : Prop := fnExactLikeShareRow.holds Try.pinned (OpenSpec.ofChange fnExactLikeShareSpec)

/-- ITS FALSE NEIGHBOUR: 'it returns false'. Refute it at one input. -/
def fnExactLikeShareWrong : ChangeSpec := { name := "fnExactLikeShare", fn := fun _ => fun
  | [d1, d2, d3] => { results := [.lit (.bool false)], args := [d1, d2, d3] }
  | _ => none }
def FnExactLikeShareWrongFalsely : Prop := fnExactLikeShareRow.holds Try.pinned (OpenSpec.ofChange fnExactLikeShareWrong)

/-- 'laws.FnExactOrderByHash': WHATEVER THE INPUT: true; the input reads as it did. -/
def fnExactOrderByHashSpec : ChangeSpec := { name := "fnExactOrderByHash", fn := fun _ => fun
  | [d1, d2] => { results := [.lit (.bool true)], args := [d1, d2] }
  | _ => none }
def fnExactOrderByHashRow : OpenClaim := { program := "ytdbllnmhlfkhbab", sum := "47d9192b151117864de6a7f2ea06f4fec66e6c729cd5df5dd009b5dda4903468", func := "loop.example/g01347/laws.FnExactOrderByHash", spec := "fnExactOrderByHash", unfollowed := true, recurses := true, apart := false }
def FnExactOrderByHashSaid : Prop := fnExactOrderByHashRow.holds Try.pinned (OpenSpec.ofChange fnExactOrderByHashSpec)

/-- ITS FALSE NEIGHBOUR: 'it returns false'. Refute it at one input. -/
def fnExactOrderByHashWrong : ChangeSpec := { name := "fnExactOrderByHash", fn := fun _ => fun
  | [d1, d2] => { results := [.lit (.bool false)], args := [d1, d2] }
  | _ => none }
def FnExactOrderByHashWrongFalsely : Prop := fnExactOrderByHashRow.holds Try.pinned (OpenSpec.ofChange fnExactOrderByHashWrong)

/- THE SECOND FORM. 'bulk': how many values and letters a reading holds, each counted each time it is reached (what is shared counts as often as it is met; a slice's spare places count too). A statement '..UptoSaid' is the law's where the arguments, and the package variables that the reading takes, are together of bulk at most 1048576: NARROWER than '..Said'. Prove '..Said' where nothing that the law and all that it calls make is longer than what came in: it says more and counts as full. Else prove '..UptoSaid'. A law counts once. -/
mutual
def uptoBulk {H : Type} : DataW H → Nat
  | .lit (.string bytes) => bytes.length + 1
  | .lit _ => 1
  | .nil => 1
  | .ptr d => uptoBulk d + 1
  | .slice elems spare => uptoBulkAll elems + uptoBulkAll spare + 1
  | .agg parts => uptoBulkAll parts + 1
  | .iface _ d => uptoBulk d + 1
  | .map entries => uptoBulkEntries entries + 1
  | .held _ => 1
def uptoBulkAll {H : Type} : List (DataW H) → Nat
  | [] => 0
  | d :: r => uptoBulk d + uptoBulkAll r
def uptoBulkEntries {H : Type} : List (Lit × DataW H) → Nat
  | [] => 0
  | x :: r => uptoBulkEntry x + uptoBulkEntries r
def uptoBulkEntry {H : Type} : Lit × DataW H → Nat
  | (.string bytes, d) => bytes.length + uptoBulk d + 1
  | (_, d) => uptoBulk d + 1
 end
def uptoSmall : (H : Type) → List (DataW H) → Bool := fun _ ds => decide (uptoBulkAll ds ≤ 1048576)
def OpenSpec.upto (s : _root_.Go.ChangeSpec) : _root_.Go.OpenSpec := { _root_.Go.OpenSpec.ofChange s with cond := some uptoSmall }

/-- 'laws.FnExactHashRows', WHERE WHAT IT READS IS OF BULK AT MOST 1048576: true; the input reads as it did. -/
def fnExactHashRowsUptoRow : OpenClaim := { program := "ytdbllnmhlfkhbab", sum := "47d9192b151117864de6a7f2ea06f4fec66e6c729cd5df5dd009b5dda4903468", func := "loop.example/g01347/laws.FnExactHashRows", spec := "fnExactHashRows", apart := false, narrowed := true }
def FnExactHashRowsUptoSaid : Prop := fnExactHashRowsUptoRow.holds Try.pinned (OpenSpec.upto fnExactHashRowsSpec)

/-- 'laws.FnExactLeastHash', WHERE WHAT IT READS IS OF BULK AT MOST 1048576: true; the input reads as it did. -/
def fnExactLeastHashUptoRow : OpenClaim := { program := "ytdbllnmhlfkhbab", sum := "47d9192b151117864de6a7f2ea06f4fec66e6c729cd5df5dd009b5dda4903468", func := "loop.example/g01347/laws.FnExactLeastHash", spec := "fnExactLeastHash", unfollowed := true, recurses := true, apart := false, narrowed := true }
def FnExactLeastHashUptoSaid : Prop := fnExactLeastHashUptoRow.holds Try.pinned (OpenSpec.upto fnExactLeastHashSpec)

/-- 'laws.FnExactSpreadOfKeys', WHERE WHAT IT READS IS OF BULK AT MOST 1048576: true; the input reads as it did. -/
def fnExactSpreadOfKeysUptoRow : OpenClaim := { program := "ytdbllnmhlfkhbab", sum := "47d9192b151117864de6a7f2ea06f4fec66e6c729cd5df5dd009b5dda4903468", func := "loop.example/g01347/laws.FnExactSpreadOfKeys", spec := "fnExactSpreadOfKeys", apart := false, narrowed := true }
def FnExactSpreadOfKeysUptoSaid : Prop := fnExactSpreadOfKeysUptoRow.holds Try.pinned (OpenSpec.upto fnExactSpreadOfKeysSpec)

/-- 'laws.FnExactMeetingsOf', WHERE WHAT IT READS IS OF BULK AT MOST 1048576: true; the input reads as it did. -/
def fnExactMeetingsOfUptoRow : OpenClaim := { program := "ytdbllnmhlfkhbab", sum := "47d9192b151117864de6a7f2ea06f4fec66e6c729cd5df5dd009b5dda4903468", func := "loop.example/g01347/laws.FnExactMeetingsOf", spec := "fnExactMeetingsOf", apart := false, narrowed := true }
def FnExactMeetingsOfUptoSaid : Prop := fnExactMeetingsOfUptoRow.holds Try.pinned (OpenSpec.upto fnExactMeetingsOfSpec)

/-- 'laws.FnExactChiOfKeys', WHERE WHAT IT READS IS OF BULK AT MOST 1048576: true; the input reads as it did. -/
def fnExactChiOfKeysUptoRow : OpenClaim := { program := "ytdbllnmhlfkhbab", sum := "47d9192b151117864de6a7f2ea06f4fec66e6c729cd5df5dd009b5dda4903468", func := "loop.example/g01347/laws.FnExactChiOfKeys", spec := "fnExactChiOfKeys", apart := false, narrowed := true }
def FnExactChiOfKeysUptoSaid : Prop := fnExactChiOfKeysUptoRow.holds Try.pinned (OpenSpec.upto fnExactChiOfKeysSpec)

/-- 'laws.FnExactHomeOf', WHERE WHAT IT READS IS OF BULK AT MOST 1048576: true; the input reads as it did. -/
def fnExactHomeOfUptoRow : OpenClaim := { program := "ytdbllnmhlfkhbab", sum := "47d9192b151117864de6a7f2ea06f4fec66e6c729cd5df5dd009b5dda4903468", func := "loop.example/g01347/laws.FnExactHomeOf", spec := "fnExactHomeOf", unfollowed := true, recurses := true, apart := false, narrowed := true }
def FnExactHomeOfUptoSaid : Prop := fnExactHomeOfUptoRow.holds Try.pinned (OpenSpec.upto fnExactHomeOfSpec)

/-- 'laws.FnExactRingHome', WHERE WHAT IT READS IS OF BULK AT MOST 1048576: true; the input reads as it did. -/
def fnExactRingHomeUptoRow : OpenClaim := { program := "ytdbllnmhlfkhbab", sum := "47d9192b151117864de6a7f2ea06f4fec66e6c729cd5df5dd009b5dda4903468", func := "loop.example/g01347/laws.FnExactRingHome", spec := "fnExactRingHome", apart := false, narrowed := true }
def FnExactRingHomeUptoSaid : Prop := fnExactRingHomeUptoRow.holds Try.pinned (OpenSpec.upto fnExactRingHomeSpec)

/-- 'laws.FnExactJumpHome', WHERE WHAT IT READS IS OF BULK AT MOST 1048576: true; the input reads as it did. -/
def fnExactJumpHomeUptoRow : OpenClaim := { program := "ytdbllnmhlfkhbab", sum := "47d9192b151117864de6a7f2ea06f4fec66e6c729cd5df5dd009b5dda4903468", func := "loop.example/g01347/laws.FnExactJumpHome", spec := "fnExactJumpHome", inPlace := ["math.archFloor", "math.Float64bits", "math.Float64frombits", "math.archTrunc"], apart := false, narrowed := true }
def FnExactJumpHomeUptoSaid : Prop := fnExactJumpHomeUptoRow.holds Try.pinned (OpenSpec.upto fnExactJumpHomeSpec)

/-- 'laws.FnExactSwapPlace', WHERE WHAT IT READS IS OF BULK AT MOST 1048576: true; the input reads as it did. -/
def fnExactSwapPlaceUptoRow : OpenClaim := { program := "ytdbllnmhlfkhbab", sum := "47d9192b151117864de6a7f2ea06f4fec66e6c729cd5df5dd009b5dda4903468", func := "loop.example/g01347/laws.FnExactSwapPlace", spec := "fnExactSwapPlace", unfollowed := true, recurses := true, apart := false, narrowed := true }
def FnExactSwapPlaceUptoSaid : Prop := fnExactSwapPlaceUptoRow.holds Try.pinned (OpenSpec.upto fnExactSwapPlaceSpec)

/-- 'laws.FnExactBackPlace', WHERE WHAT IT READS IS OF BULK AT MOST 1048576: true; the input reads as it did. -/
def fnExactBackPlaceUptoRow : OpenClaim := { program := "ytdbllnmhlfkhbab", sum := "47d9192b151117864de6a7f2ea06f4fec66e6c729cd5df5dd009b5dda4903468", func := "loop.example/g01347/laws.FnExactBackPlace", spec := "fnExactBackPlace", unfollowed := true, recurses := true, apart := false, narrowed := true }
def FnExactBackPlaceUptoSaid : Prop := fnExactBackPlaceUptoRow.holds Try.pinned (OpenSpec.upto fnExactBackPlaceSpec)

/-- 'laws.FnExactLikeShare', WHERE WHAT IT READS IS OF BULK AT MOST 1048576: true; the input reads as it did. -/
def fnExactLikeShareUptoRow : OpenClaim := { program := "ytdbllnmhlfkhbab", sum := "47d9192b151117864de6a7f2ea06f4fec66e6c729cd5df5dd009b5dda4903468", func := "loop.example/g01347/laws.FnExactLikeShare", spec := "fnExactLikeShare", unfollowed := true, recurses := true, apart := false, narrowed := true }
def FnExactLikeShareUptoSaid : Prop := fnExactLikeShareUptoRow.holds Try.pinned (OpenSpec.upto fnExactLikeShareSpec)

/-- 'laws.FnExactOrderByHash', WHERE WHAT IT READS IS OF BULK AT MOST 1048576: true; the input reads as it did. -/
def fnExactOrderByHashUptoRow : OpenClaim := { program := "ytdbllnmhlfkhbab", sum := "47d9192b151117864de6a7f2ea06f4fec66e6c729cd5df5dd009b5dda4903468", func := "loop.example/g01347/laws.FnExactOrderByHash", spec := "fnExactOrderByHash", unfollowed := true, recurses := true, apart := false, narrowed := true }
def FnExactOrderByHashUptoSaid : Prop := fnExactOrderByHashUptoRow.holds Try.pinned (OpenSpec.upto fnExactOrderByHashSpec)

end Rows
end Go.Proofs.Ytdbllnmhlfkhbab
