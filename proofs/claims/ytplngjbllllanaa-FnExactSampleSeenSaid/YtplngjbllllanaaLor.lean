/- The list of what is told of the last ones of each index, by the program. -/
import Derived.Test.YtplngjbllllanaaLoq
import Derived.Test.YtplngjbllllanaaKin
namespace Go.Proofs.Ytplngjbllllanaa
open Go.ChangeShapes Go.WideShapes Go.ChangeAt Go.RowKit Go.Shelf
set_option linter.unusedVariables false
attribute [local go_sem] Oper.semAt_some
/-- what is told at the places that have come -/
def contF (n : Nat) (f : Nat → Int) (pre : List (At n)) (i : Nat) : Value := if pre.any (fun x => x.1 == i) then .int .i64 (f i) else .int .i64 0
theorem contF_snoc (n : Nat) (f : Nat → Int) (pre : List (At n)) (x : At n) (i : Nat) : contF n f (pre ++ [x]) i = if i = x.1 then .int .i64 (f x.1) else contF n f pre i := by
  unfold contF
  rw [List.any_append]
  by_cases e : i = x.1
  · subst e; simp
  · rw [if_neg e]
    have : ([x].any fun y => y.1 == i) = false := by simp; exact fun h => e h.symm
    rw [this, Bool.or_false]
theorem contF_all (n : Nat) (f : Nat → Int) (i : Nat) (hi : i < n) : contF n f (uptoA n n (Nat.le_refl _)) i = .int .i64 (f i) := by
  unfold contF
  rw [if_pos]
  rw [List.any_eq_true]
  exact ⟨⟨i, hi⟩, uptoA_mem n n (Nat.le_refl _) i hi, by simp⟩
/-- between two rounds -/
structure LorI (w : World) (m p q g : Nat) (t : TypeId) (fv : Value) (n : Nat) (f : Nat → Int) (pre : List (At n)) (W : World) : Prop where
  s : m ≤ W.heap.size
  a : W.cell? ⟨p, 0, none⟩ = some fv
  ts : W.cell? ⟨q, 0, none⟩ = some (.slice (some ⟨g, 0, none⟩) n n)
  r : W.rowIs g t n (contF n f pre)
  b : Below w.heap.size w W
theorem LorI.keep {w : World} {m p q g : Nat} {t : TypeId} {fv : Value} {n : Nat} {f : Nat → Int} {pre : List (At n)} {W W' : World} (hp : p < m) (hq : q < m) (hg : g < m) (h : LorI w m p q g t fv n f pre W) (hs : W.heap.size ≤ W'.heap.size) (hk : ∀ k, k < m → W'.heap[k]? = W.heap[k]?) (hb : Below w.heap.size w W') : LorI w m p q g t fv n f pre W' :=
  ⟨Nat.le_trans h.s hs, by rw [World.cell?_of_block (w := W) (hk p hp)]; exact h.a, by rw [World.cell?_of_block (w := W) (hk q hq)]; exact h.ts, h.r.of_block (hk g hg), hb⟩
theorem LorI.ownFrom {w : World} {m p q g : Nat} {t : TypeId} {fv : Value} {n : Nat} {f : Nat → Int} (hp : p < m) (hq : q < m) (hg : g < m) (hm : w.heap.size ≤ m) : OwnFrom m (LorI w m p q g t fv n f) := fun pre W W' row h hgr hr =>
  h.keep hp hq hg hgr.size (fun k hk => hgr.block k (Nat.lt_of_lt_of_le hk h.s) (fun e => by have := (hr k e.symm).1; omega)) (h.b.grown hgr (Below.size h.b) (fun k e => Nat.le_trans hm (hr k e).1))
theorem keepsFrom_ext {B : Nat} {W W' : World} (h : Ext W W') : KeepsFrom B W W' := ⟨Ext.size h, fun k o _ hk _ => by rw [Below.block h k (Array.getElem?_eq_some_iff.1 hk).1]; exact hk⟩
theorem KpG.of_touch {m g : Nat} {W W' : World} (h : Touch g (g + 1) W W') (hm : m ≤ W.heap.size) : KpG m g W W' := ⟨h.size, fun k hk hg => h.block k (Nat.lt_of_lt_of_le hk hm) (by omega)⟩
theorem kpG_b {m g : Nat} (W : World) (l : Nat) (o o' : Obj) (hl : m ≤ l) (h : W.heap[l]? = some o) (_ : o.isCells = false) (_ : o.isWalk = false) : KpG m g W (W.putObj l o') :=
  ⟨(grownBy_putObj' W l o').size, fun k hk _ => (grownBy_putObj' W l o').block k (by have := (Array.getElem?_eq_some_iff.1 h).1; omega) (fun e => by cases e; omega)⟩
/-- a round: what is told is stored -/
theorem LorI.step {w : World} {m p q g : Nat} {t : TypeId} {fv : Value} {n : Nat} {f : Nat → Int} {pre : List (At n)} {W W1 : World} (hp : p < m) (hq : q < m) (hg : g < m) (hgw : w.heap.size ≤ g) (pg : p ≠ g) (qg : q ≠ g) (h : LorI w m p q g t fv n f pre W) (x : At n) (X : Ext W W1) {v : Int} (hv : f x.1 = v) :
    KeepsFrom m W (W1.setCell ⟨g, x.1, none⟩ (.int .i64 v)) ∧ KpG m g W (W1.setCell ⟨g, x.1, none⟩ (.int .i64 v)) ∧ LorI w m p q g t fv n f (pre ++ [x]) (W1.setCell ⟨g, x.1, none⟩ (.int .i64 v)) := by
  have T : Touch g (g + 1) W (W1.setCell ⟨g, x.1, none⟩ (.int .i64 v)) := (Touch.of_ext X g (g + 1)).trans (Touch.setCell _ (a := ⟨g, x.1, none⟩) (Nat.le_refl _) (Nat.lt_succ_self _) _)
  refine ⟨(keepsFrom_ext X).trans ((KeepsOthers.setCell _ _ _).from _), KpG.of_touch T h.s, ⟨Nat.le_trans h.s T.size, ?_, ?_, ?_, Touch.below h.b T hgw (Below.size h.b)⟩⟩
  · rw [World.cell?_of_block (w := W) (T.block p (Nat.lt_of_lt_of_le hp h.s) (by show p < g ∨ g + 1 ≤ p; omega))]; exact h.a
  · rw [World.cell?_of_block (w := W) (T.block q (Nat.lt_of_lt_of_le hq h.s) (by show q < g ∨ g + 1 ≤ q; omega))]; exact h.ts
  · refine ((h.r.of_block (Below.block X g (Nat.lt_of_lt_of_le hg h.s))).set x.1 (.int .i64 v)).congr fun i hi => ?_
    rw [contF_snoc, hv]
end Go.Proofs.Ytplngjbllllanaa
