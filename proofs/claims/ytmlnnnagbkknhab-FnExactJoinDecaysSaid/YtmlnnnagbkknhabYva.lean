/- Summaries: valid ones, on both sides. -/
import Derived.Test.YtmlnnnagbkknhabYkd
import Derived.Test.YtmlnnnagbkknhabAsc
import Derived.Deep.QuietTactic
import Derived.BigQuiet
import Derived.Deep.RegionWith
namespace Go.Proofs.Ytmlnnnagbkknhab
open Go.ChangeShapes Go.WideShapes Go.ChangeAt Go.RowKit Go.Proofs.Ytmlnnnagbkknhab.Flo
set_option linter.unusedVariables false
/-- whether a summary can have so many values, gaps and slacks -/
def dimsY (N C : Int) (v g s : Nat) : Bool := inB 2 N 1000 && (inB 0 C 1000000 && (decide (v ≤ 64) && (decide (g = v) && decide (s = v))))
def gapAt (C g s : Int) : Bool := inB 1 g C && inB 0 s C
def gapsB (C : Int) (gs ss : List Int) : Bool := allTo gs.length fun i => gapAt C (getI gs i) (getI ss i)
def endsB (gs ss : List Int) : Bool := decide (gs.length = 0) || (decide (getI gs 0 = 1) && (decide (getI ss 0 = 0) && decide (getI ss (gs.length - 1) = 0)))
def goodGaps (C : Int) (gs ss : List Int) : Bool := gapsB C gs ss && (decide (sumTo (getI gs) gs.length = C) && endsB gs ss)
def summB (N C : Int) (vs : List Nat) (gs ss : List Int) : Bool := dimsY N C vs.length gs.length ss.length && ((finB vs && ascB vs) && goodGaps C gs ss)
structure DimsY (N C : Int) (v g s : Nat) : Prop where
  n1 : 2 ≤ N
  n2 : N ≤ 1000
  c1 : 0 ≤ C
  c2 : C ≤ 1000000
  vx : v ≤ 64
  ge : g = v
  se : s = v
theorem dimsY_ok {N C : Int} {v g s : Nat} (h : dimsY N C v g s = true) : DimsY N C v g s := by
  unfold dimsY at h
  simp only [Bool.and_eq_true, decide_eq_true_eq, inB_is] at h
  exact ⟨h.1.1, h.1.2, h.2.1.1, h.2.1.2, h.2.2.1, h.2.2.2.1, h.2.2.2.2⟩
theorem DimsY.b {N C : Int} {v g s : Nat} (h : DimsY N C v g s) : dimsY N C v g s = true := by
  unfold dimsY; rw [inB_is.2 ⟨h.n1, h.n2⟩, inB_is.2 ⟨h.c1, h.c2⟩, decide_eq_true h.vx, decide_eq_true h.ge, decide_eq_true h.se]; rfl
theorem dimsY_no {N C : Int} {v g s : Nat} (h : ¬ DimsY N C v g s) : dimsY N C v g s = false := by
  cases hb : dimsY N C v g s
  · rfl
  · exact absurd (dimsY_ok hb) h
theorem summB_dims {N C : Int} {vs : List Nat} {gs ss : List Int} (h : ¬ DimsY N C vs.length gs.length ss.length) : summB N C vs gs ss = false := by unfold summB; rw [dimsY_no h]; rfl
theorem summB_asc {N C : Int} {vs : List Nat} {gs ss : List Int} (h : (finB vs && ascB vs) = false) : summB N C vs gs ss = false := by unfold summB; rw [h]; simp
theorem summB_good {N C : Int} {vs : List Nat} {gs ss : List Int} (hd : DimsY N C vs.length gs.length ss.length) (h : (finB vs && ascB vs) = true) : summB N C vs gs ss = goodGaps C gs ss := by unfold summB; rw [hd.b, h]; rfl
theorem summB_gap {N C : Int} {vs : List Nat} {gs ss : List Int} (h : goodGaps C gs ss = false) : summB N C vs gs ss = false := by unfold summB; rw [h]; simp
theorem good_bad {C : Int} {gs ss : List Int} {i : Nat} (hi : i < gs.length) (h : gapAt C (getI gs i) (getI ss i) = false) : goodGaps C gs ss = false := by
  unfold goodGaps; rw [show gapsB C gs ss = false from allTo_no hi h]; rfl
theorem good_sum {C : Int} {gs ss : List Int} (h : sumTo (getI gs) gs.length ≠ C) : goodGaps C gs ss = false := by
  unfold goodGaps; rw [decide_eq_false h]; simp
theorem good_ends {C : Int} {gs ss : List Int} (h : gapsB C gs ss = true) (h' : sumTo (getI gs) gs.length = C) : goodGaps C gs ss = endsB gs ss := by
  unfold goodGaps; rw [h, decide_eq_true h']; rfl
theorem ends_0 {gs ss : List Int} (h : gs.length = 0) : endsB gs ss = true := by unfold endsB; rw [decide_eq_true h]; rfl
theorem ends_n {gs ss : List Int} {x y z : Int} (h : gs.length ≠ 0) (hx : getI gs 0 = x) (hy : getI ss 0 = y) (hz : getI ss (gs.length - 1) = z) : endsB gs ss = (decide (x = 1) && (decide (y = 0) && decide (z = 0))) := by
  unfold endsB; rw [decide_eq_false h, hx, hy, hz]; rfl
theorem gapAt_no1 {C g s : Int} (h : inB 1 g 1000000 = false) (hC : C ≤ 1000000) : gapAt C g s = false := by
  unfold gapAt
  have : inB 1 g C = false := by
    cases hb : inB 1 g C
    · rfl
    · have := inB_is.1 hb
      rw [inB_is.2 ⟨this.1, by omega⟩] at h; cases h
  rw [this]; rfl
theorem gapAt_no2 {C g s : Int} (h : inB 0 s C = false) : gapAt C g s = false := by unfold gapAt; rw [h]; simp
/-- a valid summary -/
structure SummOk (N C : Int) (vs : List Nat) (gs ss : List Int) : Prop where
  d : DimsY N C vs.length gs.length ss.length
  fin : finB vs = true
  asc : ascB vs = true
  gap : ∀ i, i < vs.length → 1 ≤ getI gs i ∧ getI gs i ≤ C
  slack : ∀ i, i < vs.length → 0 ≤ getI ss i ∧ getI ss i ≤ C
  sum : sumTo (getI gs) vs.length = C
theorem summ_ok {N C : Int} {vs : List Nat} {gs ss : List Int} (h : summB N C vs gs ss = true) : SummOk N C vs gs ss := by
  unfold summB goodGaps gapsB at h
  simp only [Bool.and_eq_true, decide_eq_true_eq] at h
  have d := dimsY_ok h.1
  have hg := h.2.2.1
  have q : ∀ i, i < vs.length → gapAt C (getI gs i) (getI ss i) = true := fun i hi => allTo_at hg (by rw [d.ge]; exact hi)
  refine ⟨d, h.2.1.1, h.2.1.2, fun i hi => ?_, fun i hi => ?_, by rw [← d.ge]; exact h.2.2.2.1⟩
  · have := q i hi
    unfold gapAt at this
    simp only [Bool.and_eq_true, inB_is] at this
    exact this.1
  · have := q i hi
    unfold gapAt at this
    simp only [Bool.and_eq_true, inB_is] at this
    exact this.2
theorem c_l00In_w (k lo hi : Int) (w : World) {b : Bool} (h : inB lo k hi = b) : Calls Try.prog 58 #[.int .i64 k, .int .i64 lo, .int .i64 hi] w fun e w' => e = .returned (.bool b) ∧ w = w' := by
  subst h; exact (c_l00In k lo hi w).mono (by rintro e w' ⟨rfl, rfl⟩; exact ⟨rfl, rfl⟩)
theorem c_l00In_q (k lo hi : Int) (w : World) {b : Bool} (h : inB lo k hi = b) : Calls Try.prog 58 #[.int .i64 k, .int .i64 lo, .int .i64 hi] w fun e w' => e = .returned (.bool b) ∧ w' = w := by
  subst h; exact (c_l00In k lo hi w).mono (by rintro e w' ⟨rfl, rfl⟩; exact ⟨rfl, rfl⟩)
end Go.Proofs.Ytmlnnnagbkknhab
