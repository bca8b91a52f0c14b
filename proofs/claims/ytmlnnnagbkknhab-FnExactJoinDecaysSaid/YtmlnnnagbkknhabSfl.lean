/- Lists of floats compared: both sides. -/
import Derived.Test.YtmlnnnagbkknhabYva
import Derived.Laws.StructEq
namespace Go.Proofs.Ytmlnnnagbkknhab
open Go.ChangeShapes Go.WideShapes Go.ChangeAt Go.RowKit Go.Proofs.Ytmlnnnagbkknhab.Flo
set_option linter.unusedVariables false
def sameN (x y : Nat) : Bool := (((fv .f32 x).getD 2143289344 : Nat) == ((fv .f32 y).getD 2143289344 : Nat))
def sameF (xs ys : List Nat) : Bool := decide (xs.length = ys.length) && allTo xs.length fun i => sameN (getN xs i) (getN ys i)
theorem sameF_len {xs ys : List Nat} (h : xs.length ≠ ys.length) : sameF xs ys = false := by unfold sameF; rw [decide_eq_false h]; rfl
theorem sameF_at {xs ys : List Nat} {k : Nat} (hk : k < xs.length) (h : sameN (getN xs k) (getN ys k) = false) : sameF xs ys = false := by unfold sameF; rw [allTo_no hk h]; simp
theorem sameF_all {xs ys : List Nat} (h : xs.length = ys.length) (ha : ∀ i, i < xs.length → sameN (getN xs i) (getN ys i) = true) : sameF xs ys = true := by unfold sameF; rw [decide_eq_true h, allTo_yes ha]; rfl
theorem c_impl_SameNumber_b (x y : Nat) (w : World) {r : Bool} (hr : sameN x y = r) (h : x < 4294967296) (h' : y < 4294967296) : Calls Try.prog 57 #[.float .f32 x, .float .f32 y] w fun e w' => e = .returned (.bool r) ∧ ∃ n, w' = w.drewN n := by
  subst hr; exact c_impl_SameNumber x y w h h'
theorem c_spec_l01Same_b (x y : Nat) (w : World) {r : Bool} (hr : sameN x y = r) (h : x < 4294967296) (h' : y < 4294967296) : Calls Try.prog 56 #[.float .f32 x, .float .f32 y] w fun e w' => e = .returned (.bool r) ∧ ∃ n, w' = w.drewN n := by
  subst hr; exact c_spec_l01Same x y w h h'
theorem q_more2 {P : Program} {f : FuncId} {args : Array Value} {w : World} {a n : Nat} {v : Value} (h : Calls P f args (w.drewN (a + n)) fun e w' => e = .returned v ∧ ∃ m, w' = (w.drewN (a + n)).drewN m) :
    Calls P f args (w.drewN (a + n)) fun e w' => e = .returned v ∧ ∃ m, w' = w.drewN (a + m) := by
  refine h.mono ?_
  rintro e w' ⟨he, m, rfl⟩
  exact ⟨he, n + m, by rw [World.drewN_drewN, Nat.add_assoc]⟩
theorem bit_at {zs : List Nat} (hb : ∀ z ∈ zs, z < 4294967296) {i : Nat} (h : i < zs.length) : zs[i]?.getD 0 < 4294967296 := by
  rw [List.getElem?_eq_getElem h]; exact hb _ (List.getElem_mem h)
end Go.Proofs.Ytmlnnnagbkknhab
