/- What is most often in a list, the least one of several: plain facts; a map that counts. -/
import Derived.Test.YtplngjbllllanaaLsd
import Derived.Test.YtplngjbllllanaaLef
import Derived.Test.YtplngjbllllanaaLop
import Derived.Maps.OwnSet
import Derived.Maps.OwnOps
namespace Go.Proofs.Ytplngjbllllanaa
open Go.ChangeShapes Go.WideShapes Go.ChangeAt Go.RowKit Go.Maps Go.WideMaps
set_option linter.unusedVariables false
/-- how often a number stands in a list -/
def cntI (zs : List Int) (v : Int) : Nat := zs.count v
theorem cntI_snoc (zs : List Int) (x v : Int) : cntI (zs ++ [x]) v = cntI zs v + (if x = v then 1 else 0) := by
  unfold cntI
  rw [List.count_append, List.count_singleton]
  congr 1
  by_cases h : x = v
  · subst h; simp
  · rw [if_neg h]; simp [h]
theorem cntI_take (zs : List Int) (k : Nat) (hk : k < zs.length) (v : Int) : cntI (zs.take (k + 1)) v = cntI (zs.take k) v + (if getI zs k = v then 1 else 0) := by
  rw [List.take_succ_eq_append_getElem hk, cntI_snoc]
  unfold getI; rw [List.getElem?_eq_getElem hk]; rfl
theorem cntI_le (zs : List Int) (v : Int) : cntI zs v ≤ zs.length := List.count_le_length
theorem cntI_sort (zs : List Int) (v : Int) : cntI (sortZ zs) v = cntI zs v := (List.mergeSort_perm zs _).count_eq v
/-- how long the run is that ends at a place -/
def runAt (f : Nat → Int) : Nat → Nat
  | 0 => 1
  | k + 1 => if f (k + 1) = f k then runAt f k + 1 else 1
/-- the number of the longest run so far, and how long that is -/
def modeAt (f : Nat → Int) : Nat → Int × Nat
  | 0 => (f 0, 0)
  | k + 1 => if (modeAt f k).2 < runAt f k then (f k, runAt f k) else modeAt f k
theorem modeAt_yes {f : Nat → Int} {k : Nat} (h : (modeAt f k).2 < runAt f k) : modeAt f (k + 1) = (f k, runAt f k) := if_pos h
theorem modeAt_no {f : Nat → Int} {k : Nat} (h : ¬ (modeAt f k).2 < runAt f k) : modeAt f (k + 1) = modeAt f k := if_neg h
theorem runAt_le (f : Nat → Int) : ∀ k, 1 ≤ runAt f k ∧ runAt f k ≤ k + 1
  | 0 => ⟨Nat.le_refl _, Nat.le_refl _⟩
  | k + 1 => by have := runAt_le f k; unfold runAt; split <;> omega
theorem modeAt_ok (f : Nat → Int) : ∀ k, 1 ≤ k → ∃ q, q < k ∧ modeAt f k = (f q, runAt f q) ∧ (∀ i, i < k → runAt f i ≤ runAt f q) ∧ ∀ i, i < q → runAt f i < runAt f q
  | 0, h => absurd h (by omega)
  | 1, _ => by
    refine ⟨0, by omega, modeAt_yes (show 0 < 1 by omega), fun i hi => ?_, fun i hi => absurd hi (Nat.not_lt_zero _)⟩
    obtain rfl : i = 0 := by omega
    exact Nat.le_refl _
  | k + 2, _ => by
    obtain ⟨q, h1, h2, h3, h4⟩ := modeAt_ok f (k + 1) (by omega)
    by_cases h : (modeAt f (k + 1)).2 < runAt f (k + 1)
    · refine ⟨k + 1, by omega, modeAt_yes h, fun i hi => ?_, fun i hi => ?_⟩
      all_goals rw [h2] at h
      · by_cases e : i = k + 1
        · subst e; exact Nat.le_refl _
        · have := h3 i (by omega); have h : runAt f q < runAt f (k + 1) := h; omega
      · have := h3 i (by omega); have h : runAt f q < runAt f (k + 1) := h; omega
    · refine ⟨q, by omega, by rw [modeAt_no h, h2], fun i hi => ?_, h4⟩
      rw [h2] at h
      by_cases e : i = k + 1
      · subst e; have h : ¬ runAt f q < runAt f (k + 1) := h; omega
      · exact h3 i (by omega)
theorem modeAt_le (f : Nat → Int) : ∀ k, (modeAt f k).2 ≤ k
  | 0 => Nat.le_refl _
  | k + 1 => by
    have := modeAt_le f k; have := (runAt_le f k).2
    by_cases h : (modeAt f k).2 < runAt f k
    · rw [modeAt_yes h]; exact this
    · rw [modeAt_no h]; omega
theorem asc_cnt_zero {zs : List Int} {m : Nat} {v : Int} (hm : m ≤ zs.length) (h : ∀ i, i < m → getI zs i ≠ v) : cntI (zs.take m) v = 0 := by
  induction m with
  | zero => rfl
  | succ m ih =>
    rw [cntI_take zs m (by omega), ih (by omega) (fun i hi => h i (by omega)), if_neg (h m (by omega))]
theorem runAt_cnt {zs : List Int} (ho : ∀ a b, a ≤ b → b < zs.length → getI zs a ≤ getI zs b) : ∀ i, i < zs.length → runAt (getI zs) i = cntI (zs.take (i + 1)) (getI zs i)
  | 0, h => by rw [cntI_take zs 0 h, if_pos rfl, List.take_zero]; rfl
  | i + 1, h => by
    have ih := runAt_cnt ho i (by omega)
    rw [cntI_take zs (i + 1) h, if_pos rfl]
    by_cases e : getI zs (i + 1) = getI zs i
    · show (if _ then _ else _) = _
      rw [if_pos e, ih, e]
    · show (if _ then _ else _) = _
      rw [if_neg e, asc_cnt_zero (by omega)]
      intro j hj
      have h1 := ho j i (by omega) (by omega)
      have h2 := ho i (i + 1) (by omega) h
      omega
theorem cnt_full {zs : List Int} {v : Int} : ∀ m, m ≤ zs.length → 1 ≤ cntI (zs.take m) v → ∃ e, e < m ∧ getI zs e = v ∧ cntI (zs.take (e + 1)) v = cntI (zs.take m) v
  | 0, _, h => by rw [List.take_zero] at h; exact absurd h (Nat.not_succ_le_zero _)
  | m + 1, hm, h => by
    by_cases e : getI zs m = v
    · exact ⟨m, by omega, e, rfl⟩
    · have h1 := cntI_take zs m (by omega) v
      rw [if_neg e, Nat.add_zero] at h1
      rw [h1] at h ⊢
      obtain ⟨e', h2, h3, h4⟩ := cnt_full m (by omega) h
      exact ⟨e', by omega, h3, h4⟩
theorem cnt_part {zs : List Int} {v : Int} : ∀ m k, m ≤ k → k ≤ zs.length → cntI (zs.take m) v ≤ cntI (zs.take k) v
  | m, k, hmk, hk => by
    induction k with
    | zero =>
      obtain rfl : m = 0 := by omega
      exact Nat.le_refl _
    | succ k ih =>
      by_cases e : m = k + 1
      · subst e; exact Nat.le_refl _
      · have := ih (by omega) (by omega)
        rw [cntI_take zs k (by omega)]; omega
theorem least_ok (f : Nat → Int) : ∀ n, 1 ≤ n → (∀ i, i < n → f (leastAt f n) ≤ f i) ∧ ∀ i, i < leastAt f n → f (leastAt f n) < f i
  | 0, h => absurd h (by omega)
  | 1, _ => by
    rw [leastAt_one]
    refine ⟨fun i hi => ?_, fun i hi => absurd hi (Nat.not_lt_zero _)⟩
    obtain rfl : i = 0 := by omega
    exact Int.le_refl _
  | n + 2, _ => by
    obtain ⟨h1, h2⟩ := least_ok f (n + 1) (by omega)
    have h3 := leastAt_lt f n
    by_cases h : f (n + 1) < f (leastAt f (n + 1))
    · rw [leastAt_yes h]
      refine ⟨fun i hi => ?_, fun i hi => ?_⟩
      · by_cases e : i = n + 1
        · subst e; exact Int.le_refl _
        · have := h1 i (by omega); omega
      · have := h1 i (by omega); omega
    · rw [leastAt_no h]
      refine ⟨fun i hi => ?_, h2⟩
      by_cases e : i = n + 1
      · subst e; omega
      · exact h1 i (by omega)
/-- what is most often in a list, the least one of several -/
def oftF (zs : List Int) (i : Nat) : Int := -((cntI zs (getI (sortZ zs) i) : Nat) : Int)
def oftI (zs : List Int) : Int := getI (sortZ zs) (leastAt (oftF zs) zs.length)
theorem sort_in (zs : List Int) (a b : Nat) (hab : a ≤ b) (hb : b < (sortZ zs).length) : getI (sortZ zs) a ≤ getI (sortZ zs) b := by
  by_cases e : a = b
  · subst e; exact Int.le_refl _
  · have h := List.pairwise_iff_getElem.1 (sortZ_asc zs) a b (by omega) hb (by omega)
    unfold getI
    rw [List.getElem?_eq_getElem (by omega), List.getElem?_eq_getElem hb]; exact h
theorem oft_mode {zs : List Int} (h1 : 1 ≤ zs.length) : (modeAt (getI (sortZ zs)) zs.length).1 = oftI zs := by
  have hl := sortZ_length zs
  obtain ⟨q, q1, q2, q3, q4⟩ := modeAt_ok (getI (sortZ zs)) zs.length h1
  obtain ⟨p3, p4⟩ := least_ok (oftF zs) zs.length h1
  have p1 := leastAt_le (oftF zs) zs.length h1
  unfold oftI
  rw [q2]
  obtain ⟨p, hp⟩ : ∃ p, leastAt (oftF zs) zs.length = p := ⟨_, rfl⟩
  rw [hp] at p1 p3 p4 ⊢
  have ho := sort_in zs
  have hr := runAt_cnt (zs := sortZ zs) ho
  have tk : (sortZ zs).take zs.length = sortZ zs := List.take_of_length_le (by omega)
  have cs : ∀ v, cntI ((sortZ zs).take zs.length) v = cntI zs v := fun v => by rw [tk, cntI_sort]
  -- the run of p's number is whole
  have hc1 : 1 ≤ cntI ((sortZ zs).take zs.length) (getI (sortZ zs) p) := by
    have a1 := cntI_take (sortZ zs) p (by omega) (getI (sortZ zs) p)
    rw [if_pos rfl] at a1
    have a2 := cnt_part (zs := sortZ zs) (v := getI (sortZ zs) p) (p + 1) zs.length (by omega) (by omega)
    omega
  obtain ⟨e, e1, e2, e3⟩ := cnt_full zs.length (by omega) hc1
  rw [cs] at e3
  have hre := hr e (by omega)
  rw [e2, e3] at hre
  have hrq := hr q (by omega)
  have hqc := cnt_part (zs := sortZ zs) (v := getI (sortZ zs) q) (q + 1) zs.length (by omega) (by omega)
  rw [cs] at hqc
  have g1 := q3 e e1
  have g2 := p3 q q1
  unfold oftF at g2 p4
  have qp : p ≤ q := by
    refine Nat.le_of_not_lt fun hlt => ?_
    have := p4 q hlt
    omega
  have qe : q ≤ e := by
    refine Nat.le_of_not_lt fun hlt => ?_
    have := q4 e hlt
    omega
  have b1 := ho p q qp (by omega)
  have b2 := ho q e qe (by omega)
  show getI (sortZ zs) q = _
  omega
/-- a map that tells how often each number stands in a list -/
structure CntD (D : DataW Unit) (zs : List Int) : Prop where
  m : IsMap D
  a : ∀ v : Int, D.atKey (.int .i64 v) (.lit (.int .i64 0)) = .lit (.int .i64 ((cntI zs v : Nat) : Int))
theorem CntD.nil : CntD (.map []) [] := ⟨⟨_, rfl⟩, fun v => rfl⟩
theorem CntD.step {D : DataW Unit} {zs : List Int} (h : CntD D zs) (x : Int) : CntD (D.put (.int .i64 x) (.lit (.int .i64 (((cntI zs x : Nat) : Int) + 1)))) (zs ++ [x]) := by
  refine ⟨h.m.put _ _, fun v => ?_⟩
  rw [cntI_snoc]
  by_cases e : x = v
  · subst e
    rw [atKey_put_same h.m (show WideAt.IsKeyLit (Lit.int .i64 x) from trivial), if_pos rfl]; rfl
  · rw [atKey_put_other (fun e' => e (by injection e' with _ e'; exact e'.symm)), h.a, if_neg e]; rfl
theorem wf_many {x : Int} (h1 : -1000000 ≤ x) (h2 : x ≤ 1000000) : (Lit.int .i64 x).wf = true := by
  have e1 : IntKind.i64.min = -9223372036854775808 := by decide
  have e2 : IntKind.i64.max = 9223372036854775807 := by decide
  simp [Lit.wf, e1, e2]
  omega
def ManyOk (zs : List Int) : Prop := ∀ x ∈ zs, -1000000 ≤ x ∧ x ≤ 1000000
theorem ManyOk.at {zs : List Int} (h : ManyOk zs) {i : Nat} (hi : i < zs.length) : -1000000 ≤ getI zs i ∧ getI zs i ≤ 1000000 := by
  have e : getI zs i = zs[i] := by unfold getI; rw [List.getElem?_eq_getElem hi]; rfl
  rw [e]; exact h _ (List.getElem_mem hi)
theorem ManyOk.last {zs : List Int} (h : ManyOk zs) (long i : Nat) : ManyOk (lastZ zs long i) := fun x hx => h x (List.mem_of_mem_take (List.mem_of_mem_drop hx))
theorem many_of {zs : List Int} (h : manyB 1000000 zs = true) : ManyOk zs := fun x hx => by
  obtain ⟨i, hi, e⟩ := List.getElem_of_mem hx
  have := manyB_at h hi
  rw [List.getElem?_eq_getElem hi, e] at this
  exact this
theorem retB_o {a b : Bool} (h : a = b) : Ending.returned (.bool a) = Ending.returned (.bool b) := by rw [h]
theorem owns_map {P : Program} {k : TypeId} {R : Value → Option (DataW Unit × List MemPlace)} {w w' : World} {b n : Nat} {D : DataW Unit} (h : w.ownsMap P k R b n D) (e : w'.heap[b]? = w.heap[b]?) : w'.ownsMap P k R b n D := by
  obtain ⟨es, clock, hb, r⟩ := h
  exact ⟨es, clock, e.trans hb, r⟩
end Go.Proofs.Ytplngjbllllanaa
