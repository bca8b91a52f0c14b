/- Structs of integers and several slices (Summary): what the laws' helpers answer. -/
import Derived.Test.YtmlnnnagbkknhabMul
import Derived.Test.YtmlnnnagbkknhabFlw
namespace Go.Proofs.Ytmlnnnagbkknhab
open Go.ChangeShapes Go.WideShapes Go.ChangeAt Go.RowKit
set_option linter.unusedVariables false
/-- Summary as values -/
structure YV where
  N : Int
  C : Int
  vs : List Nat
  gs : List Int
  ss : List Int
def YV.no : YV := ⟨0, 0, [], [], []⟩
def RetKY (t1 t2 t3 : TypeId) (c : YV) (w : World) (e : Ending) (w' : World) : Prop := ∃ a1 k1 a2 k2 a3 k3, e = .returned (.agg #[.int .i64 c.N, .int .i64 c.C, .slice a1 c.vs.length k1, .slice a2 c.gs.length k2, .slice a3 c.ss.length k3]) ∧ Own3 t1 t2 t3 w' w.heap.size w'.heap.size a1 c.vs.length k1 (flos c.vs) a2 c.gs.length k2 (ints c.gs) a3 c.ss.length k3 (ints c.ss) ∧ Ext w w'
def RetKYB (t1 t2 t3 : TypeId) (c : YV) (b : Bool) (w : World) (e : Ending) (w' : World) : Prop := ∃ a1 k1 a2 k2 a3 k3, e = .returned (.tuple #[.agg #[.int .i64 c.N, .int .i64 c.C, .slice a1 c.vs.length k1, .slice a2 c.gs.length k2, .slice a3 c.ss.length k3], .bool b]) ∧ Own3 t1 t2 t3 w' w.heap.size w'.heap.size a1 c.vs.length k1 (flos c.vs) a2 c.gs.length k2 (ints c.gs) a3 c.ss.length k3 (ints c.ss) ∧ Ext w w'
def RetMarkY (t1 t2 t3 : TypeId) (lo hi : Nat) (a1 : Option Addr) (n1 k1 : Nat) (a2 : Option Addr) (n2 k2 : Nat) (a3 : Option Addr) (n3 k3 : Nat) (s : Nat) (w : World) (e : Ending) (w' : World) : Prop := e = .returned (.int .i64 ((s + n1 + n2 + n3 : Nat) : Int)) ∧ Own3 t1 t2 t3 w' lo hi a1 n1 k1 (flos (fmarks (s) n1)) a2 n2 k2 (ints (marks (s + n1) n2)) a3 n3 k3 (ints (marks (s + n1 + n2) n3)) ∧ Touch lo hi w w'
end Go.Proofs.Ytmlnnnagbkknhab
