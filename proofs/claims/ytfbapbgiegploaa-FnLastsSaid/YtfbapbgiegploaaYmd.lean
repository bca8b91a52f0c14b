/- FnLasts, plain: means of small whole numbers. -/
import Derived.Test.YtfbapbgiegploaaYmc
import Derived.Test.YtfbapbgiegploaaYma
import Derived.Test.YtfbapbgiegploaaLsd
import Derived.Test.YtfbapbgiegploaaLef
import Derived.Maps.OwnSet
import Derived.Maps.OwnOps
import Derived.Test.YtfbapbgiegploaaMdk
namespace Go.Proofs.Ytfbapbgiegploaa
open Go.ChangeShapes Go.WideShapes Go.ChangeAt Go.RowKit Go.Proofs.Ytfbapbgiegploaa.Flo
set_option linter.unusedVariables false
def zOf (k : Nat) : Int := (k : Int) - 48
def adOk (a b : Nat) : Bool := fop .add .f32 (fv .f32 (floatOfInt .f32 (zOf a))) (fv .f32 (floatOfInt .f32 ((b : Int) - 6))) == fv .f32 (floatOfInt .f32 (zOf a + ((b : Int) - 6)))
theorem adAll : ((List.range 97).all fun a => (List.range 13).all fun b => adOk a b) = true := by decide +kernel
def mQ (z c : Int) : Nat := (floatBits .quo .f32 (floatOfInt .f32 z) (floatOfInt .f32 c)).getD 0
def mW (z c : Int) : Nat := (floatToFloatBits .f32 (mQ z c) .f64).getD 0
def mV (z c : Int) : Nat := (floatBits .quo .f64 (floatOfInt .f64 z) (floatOfInt .f64 c)).getD 0
def mP (z c : Int) : Nat := (floatBits .sub .f64 (mW z c) (mV z c)).getD 0
def mM (z c : Int) : Nat := (floatBits .sub .f64 (mV z c) (mW z c)).getD 0
def mG (z c : Int) : Nat := (gapR (mP z c) (mM z c)).getD 0
structure MeanOk (z c : Int) : Prop where
  q0 : fop .quo .f32 (fv .f32 (floatOfInt .f32 z)) (fv .f32 (floatOfInt .f32 c)) = some (mQ z c)
  fin : isFin .f32 (mQ z c) = true
  lt : mQ z c < 4294967296
  w : floatToFloatBits .f32 (mQ z c) .f64 = some (mW z c)
  v : floatBits .quo .f64 (floatOfInt .f64 z) (floatOfInt .f64 c) = some (mV z c)
  p : floatBits .sub .f64 (mW z c) (mV z c) = some (mP z c)
  m : floatBits .sub .f64 (mV z c) (mW z c) = some (mM z c)
  g : gapR (mP z c) (mM z c) = some (mG z c)
  o : (FloatKind.f64.format.order (mG z c) 4562254508917369340 == some .gt) = false
def meOk (z c : Int) : Bool := fop .quo .f32 (fv .f32 (floatOfInt .f32 z)) (fv .f32 (floatOfInt .f32 c)) == some (mQ z c) && (isFin .f32 (mQ z c) && (decide (mQ z c < 4294967296) && (floatToFloatBits .f32 (mQ z c) .f64 == some (mW z c) && (floatBits .quo .f64 (floatOfInt .f64 z) (floatOfInt .f64 c) == some (mV z c)
  && (floatBits .sub .f64 (mW z c) (mV z c) == some (mP z c) && (floatBits .sub .f64 (mV z c) (mW z c) == some (mM z c) && (gapR (mP z c) (mM z c) == some (mG z c) && !(FloatKind.f64.format.order (mG z c) 4562254508917369340 == some .gt))))))))
theorem meAll : ((List.range 97).all fun a => (List.range 8).all fun c => meOk (zOf a) ((c : Int) + 1)) = true := by decide +kernel
theorem mean_ok {z c : Int} (h1 : -48 ≤ z) (h2 : z ≤ 48) (c1 : 1 ≤ c) (c2 : c ≤ 8) : MeanOk z c := by
  have := List.all_eq_true.1 (List.all_eq_true.1 meAll (z + 48).toNat (List.mem_range.2 (by omega))) (c - 1).toNat (List.mem_range.2 (by omega))
  rw [show zOf (z + 48).toNat = z by unfold zOf; omega, show (((c - 1).toNat : Nat) : Int) + 1 = c by omega] at this
  unfold meOk at this
  simp only [Bool.and_eq_true, beq_iff_eq, decide_eq_true_eq, Bool.not_eq_true'] at this
  obtain ⟨a1, a2, a3, a4, a5, a6, a7, a8, a9⟩ := this
  exact ⟨a1, a2, a3, a4, a5, a6, a7, a8, a9⟩
theorem ad_ok {z x : Int} (h1 : -48 ≤ z) (h2 : z ≤ 48) (x1 : -6 ≤ x) (x2 : x ≤ 6) : fop .add .f32 (fv .f32 (floatOfInt .f32 z)) (fv .f32 (floatOfInt .f32 x)) = fv .f32 (floatOfInt .f32 (z + x)) := by
  have := List.all_eq_true.1 (List.all_eq_true.1 adAll (z + 48).toNat (List.mem_range.2 (by omega))) (x + 6).toNat (List.mem_range.2 (by omega))
  unfold adOk at this
  rw [beq_iff_eq, show zOf (z + 48).toNat = z by unfold zOf; omega, show (((x + 6).toNat : Nat) : Int) - 6 = x by omega] at this
  exact this
/-- the sum of whole numbers -/
def sumI (xs : List Int) : Int := xs.foldl (· + ·) 0
theorem sumI_step (xs : List Int) (k : Nat) (h : k < xs.length) : sumI (xs.take (k + 1)) = sumI (xs.take k) + getI xs k := by
  unfold sumI getI
  rw [List.take_succ_eq_append_getElem h, List.foldl_append]
  simp [h]
theorem sumI_bd {xs : List Int} (hb : ∀ i, -6 ≤ getI xs i ∧ getI xs i ≤ 6) : ∀ k, k ≤ xs.length → -(6 * (k : Int)) ≤ sumI (xs.take k) ∧ sumI (xs.take k) ≤ 6 * (k : Int)
  | 0, _ => by simp [sumI]
  | k + 1, h => by
    have ih := sumI_bd hb k (by omega)
    have hx := hb k
    rw [sumI_step xs k (by omega)]
    omega
/-- the sum of floats that are small whole numbers is the float of their sum -/
theorem sumV_int {xs : List Int} (hb : ∀ i, -6 ≤ getI xs i ∧ getI xs i ≤ 6) (hl : xs.length ≤ 8) {fs : List Nat} (hf : fs = xs.map (floatOfInt .f32)) : ∀ k, k ≤ xs.length → sumV (fs.take k) = fv .f32 (floatOfInt .f32 (sumI (xs.take k)))
  | 0, _ => by
    show some 0 = fv .f32 (floatOfInt .f32 (sumI (xs.take 0)))
    rw [List.take_zero]
    show some 0 = fv .f32 (floatOfInt .f32 0)
    decide +kernel
  | k + 1, h => by
    have ih := sumV_int hb hl hf k (by omega)
    have hbd := sumI_bd hb k (by omega)
    have hx := hb k
    have hfl : fs.length = xs.length := by rw [hf, List.length_map]
    rw [sumV_step fs k (by omega), ih, sumI_step xs k (by omega)]
    have e : fs[k]?.getD 0 = floatOfInt .f32 (getI xs k) := by
      rw [hf, List.getElem?_map]
      unfold getI
      rw [List.getElem?_eq_getElem (by omega)]
      simp
    rw [e]
    exact ad_ok (by omega) (by omega) hx.1 hx.2
theorem meanV_int {xs : List Int} (hb : ∀ i, -6 ≤ getI xs i ∧ getI xs i ≤ 6) (h1 : 1 ≤ xs.length) (hl : xs.length ≤ 8) {fs : List Nat} (hf : fs = xs.map (floatOfInt .f32)) : meanV fs = some (mQ (sumI xs) (xs.length : Int)) ∧ MeanOk (sumI xs) (xs.length : Int) := by
  have hs := sumV_int hb hl hf xs.length (Nat.le_refl _)
  have hbd := sumI_bd hb xs.length (Nat.le_refl _)
  have hfl : fs.length = xs.length := by rw [hf, List.length_map]
  rw [List.take_of_length_le (Nat.le_of_eq hfl), List.take_length] at hs
  rw [List.take_length] at hbd
  have := mean_ok (z := sumI xs) (c := (xs.length : Int)) (by omega) (by omega) (by omega) (by omega)
  refine ⟨?_, this⟩
  unfold meanV
  rw [hs, hfl]
  exact this.q0
end Go.Proofs.Ytfbapbgiegploaa
/- What is most often in a list, the least one of several: plain facts; a map that counts. -/
namespace Go.Proofs.Ytfbapbgiegploaa
open Go.ChangeShapes Go.WideShapes Go.ChangeAt Go.RowKit Go.Maps Go.WideMaps
set_option linter.unusedVariables false
/-- how often a number stands in a list -/
def cntI (zs : List Int) (v : Int) : Nat := zs.count v
theorem cntI_snoc (zs : List Int) (x v : Int) : cntI (zs ++ [x]) v = cntI zs v + (if x = v then 1 else 0) := by
  unfold cntI
  rw [List.count_append, List.count_singleton]
  congr 1
  by_cases h : x = v
  · subst h; simp
  · rw [if_neg h]; simp [h]
theorem cntI_take (zs : List Int) (k : Nat) (hk : k < zs.length) (v : Int) : cntI (zs.take (k + 1)) v = cntI (zs.take k) v + (if getI zs k = v then 1 else 0) := by
  rw [List.take_succ_eq_append_getElem hk, cntI_snoc]
  unfold getI; rw [List.getElem?_eq_getElem hk]; rfl
theorem cntI_le (zs : List Int) (v : Int) : cntI zs v ≤ zs.length := List.count_le_length
theorem cntI_sort (zs : List Int) (v : Int) : cntI (sortZ zs) v = cntI zs v := (List.mergeSort_perm zs _).count_eq v
/-- how long the run is that ends at a place -/
def runAt (f : Nat → Int) : Nat → Nat
  | 0 => 1
  | k + 1 => if f (k + 1) = f k then runAt f k + 1 else 1
/-- the number of the longest run so far, and how long that is -/
def modeAt (f : Nat → Int) : Nat → Int × Nat
  | 0 => (f 0, 0)
  | k + 1 => if (modeAt f k).2 < runAt f k then (f k, runAt f k) else modeAt f k
theorem modeAt_yes {f : Nat → Int} {k : Nat} (h : (modeAt f k).2 < runAt f k) : modeAt f (k + 1) = (f k, runAt f k) := if_pos h
theorem modeAt_no {f : Nat → Int} {k : Nat} (h : ¬ (modeAt f k).2 < runAt f k) : modeAt f (k + 1) = modeAt f k := if_neg h
theorem runAt_le (f : Nat → Int) : ∀ k, 1 ≤ runAt f k ∧ runAt f k ≤ k + 1
  | 0 => ⟨Nat.le_refl _, Nat.le_refl _⟩
  | k + 1 => by have := runAt_le f k; unfold runAt; split <;> omega
theorem modeAt_ok (f : Nat → Int) : ∀ k, 1 ≤ k → ∃ q, q < k ∧ modeAt f k = (f q, runAt f q) ∧ (∀ i, i < k → runAt f i ≤ runAt f q) ∧ ∀ i, i < q → runAt f i < runAt f q
  | 0, h => absurd h (by omega)
  | 1, _ => by
    refine ⟨0, by omega, modeAt_yes (show 0 < 1 by omega), fun i hi => ?_, fun i hi => absurd hi (Nat.not_lt_zero _)⟩
    obtain rfl : i = 0 := by omega
    exact Nat.le_refl _
  | k + 2, _ => by
    obtain ⟨q, h1, h2, h3, h4⟩ := modeAt_ok f (k + 1) (by omega)
    by_cases h : (modeAt f (k + 1)).2 < runAt f (k + 1)
    · refine ⟨k + 1, by omega, modeAt_yes h, fun i hi => ?_, fun i hi => ?_⟩
      all_goals rw [h2] at h
      · by_cases e : i = k + 1
        · subst e; exact Nat.le_refl _
        · have := h3 i (by omega); have h : runAt f q < runAt f (k + 1) := h; omega
      · have := h3 i (by omega); have h : runAt f q < runAt f (k + 1) := h; omega
    · refine ⟨q, by omega, by rw [modeAt_no h, h2], fun i hi => ?_, h4⟩
      rw [h2] at h
      by_cases e : i = k + 1
      · subst e; have h : ¬ runAt f q < runAt f (k + 1) := h; omega
      · exact h3 i (by omega)
theorem modeAt_le (f : Nat → Int) : ∀ k, (modeAt f k).2 ≤ k
  | 0 => Nat.le_refl _
  | k + 1 => by
    have := modeAt_le f k; have := (runAt_le f k).2
    by_cases h : (modeAt f k).2 < runAt f k
    · rw [modeAt_yes h]; exact this
    · rw [modeAt_no h]; omega
theorem asc_cnt_zero {zs : List Int} {m : Nat} {v : Int} (hm : m ≤ zs.length) (h : ∀ i, i < m → getI zs i ≠ v) : cntI (zs.take m) v = 0 := by
  induction m with
  | zero => rfl
  | succ m ih =>
    rw [cntI_take zs m (by omega), ih (by omega) (fun i hi => h i (by omega)), if_neg (h m (by omega))]
theorem runAt_cnt {zs : List Int} (ho : ∀ a b, a ≤ b → b < zs.length → getI zs a ≤ getI zs b) : ∀ i, i < zs.length → runAt (getI zs) i = cntI (zs.take (i + 1)) (getI zs i)
  | 0, h => by rw [cntI_take zs 0 h, if_pos rfl, List.take_zero]; rfl
  | i + 1, h => by
    have ih := runAt_cnt ho i (by omega)
    rw [cntI_take zs (i + 1) h, if_pos rfl]
    by_cases e : getI zs (i + 1) = getI zs i
    · show (if _ then _ else _) = _
      rw [if_pos e, ih, e]
    · show (if _ then _ else _) = _
      rw [if_neg e, asc_cnt_zero (by omega)]
      intro j hj
      have h1 := ho j i (by omega) (by omega)
      have h2 := ho i (i + 1) (by omega) h
      omega
theorem cnt_full {zs : List Int} {v : Int} : ∀ m, m ≤ zs.length → 1 ≤ cntI (zs.take m) v → ∃ e, e < m ∧ getI zs e = v ∧ cntI (zs.take (e + 1)) v = cntI (zs.take m) v
  | 0, _, h => by rw [List.take_zero] at h; exact absurd h (Nat.not_succ_le_zero _)
  | m + 1, hm, h => by
    by_cases e : getI zs m = v
    · exact ⟨m, by omega, e, rfl⟩
    · have h1 := cntI_take zs m (by omega) v
      rw [if_neg e, Nat.add_zero] at h1
      rw [h1] at h ⊢
      obtain ⟨e', h2, h3, h4⟩ := cnt_full m (by omega) h
      exact ⟨e', by omega, h3, h4⟩
theorem cnt_part {zs : List Int} {v : Int} : ∀ m k, m ≤ k → k ≤ zs.length → cntI (zs.take m) v ≤ cntI (zs.take k) v
  | m, k, hmk, hk => by
    induction k with
    | zero =>
      obtain rfl : m = 0 := by omega
      exact Nat.le_refl _
    | succ k ih =>
      by_cases e : m = k + 1
      · subst e; exact Nat.le_refl _
      · have := ih (by omega) (by omega)
        rw [cntI_take zs k (by omega)]; omega
theorem least_ok (f : Nat → Int) : ∀ n, 1 ≤ n → (∀ i, i < n → f (leastAt f n) ≤ f i) ∧ ∀ i, i < leastAt f n → f (leastAt f n) < f i
  | 0, h => absurd h (by omega)
  | 1, _ => by
    rw [leastAt_one]
    refine ⟨fun i hi => ?_, fun i hi => absurd hi (Nat.not_lt_zero _)⟩
    obtain rfl : i = 0 := by omega
    exact Int.le_refl _
  | n + 2, _ => by
    obtain ⟨h1, h2⟩ := least_ok f (n + 1) (by omega)
    have h3 := leastAt_lt f n
    by_cases h : f (n + 1) < f (leastAt f (n + 1))
    · rw [leastAt_yes h]
      refine ⟨fun i hi => ?_, fun i hi => ?_⟩
      · by_cases e : i = n + 1
        · subst e; exact Int.le_refl _
        · have := h1 i (by omega); omega
      · have := h1 i (by omega); omega
    · rw [leastAt_no h]
      refine ⟨fun i hi => ?_, h2⟩
      by_cases e : i = n + 1
      · subst e; omega
      · exact h1 i (by omega)
/-- what is most often in a list, the least one of several -/
def oftF (zs : List Int) (i : Nat) : Int := -((cntI zs (getI (sortZ zs) i) : Nat) : Int)
def oftI (zs : List Int) : Int := getI (sortZ zs) (leastAt (oftF zs) zs.length)
theorem sort_in (zs : List Int) (a b : Nat) (hab : a ≤ b) (hb : b < (sortZ zs).length) : getI (sortZ zs) a ≤ getI (sortZ zs) b := by
  by_cases e : a = b
  · subst e; exact Int.le_refl _
  · have h := List.pairwise_iff_getElem.1 (sortZ_asc zs) a b (by omega) hb (by omega)
    unfold getI
    rw [List.getElem?_eq_getElem (by omega), List.getElem?_eq_getElem hb]; exact h
theorem oft_mode {zs : List Int} (h1 : 1 ≤ zs.length) : (modeAt (getI (sortZ zs)) zs.length).1 = oftI zs := by
  have hl := sortZ_length zs
  obtain ⟨q, q1, q2, q3, q4⟩ := modeAt_ok (getI (sortZ zs)) zs.length h1
  obtain ⟨p3, p4⟩ := least_ok (oftF zs) zs.length h1
  have p1 := leastAt_le (oftF zs) zs.length h1
  unfold oftI
  rw [q2]
  obtain ⟨p, hp⟩ : ∃ p, leastAt (oftF zs) zs.length = p := ⟨_, rfl⟩
  rw [hp] at p1 p3 p4 ⊢
  have ho := sort_in zs
  have hr := runAt_cnt (zs := sortZ zs) ho
  have tk : (sortZ zs).take zs.length = sortZ zs := List.take_of_length_le (by omega)
  have cs : ∀ v, cntI ((sortZ zs).take zs.length) v = cntI zs v := fun v => by rw [tk, cntI_sort]
  -- the run of p's number is whole
  have hc1 : 1 ≤ cntI ((sortZ zs).take zs.length) (getI (sortZ zs) p) := by
    have a1 := cntI_take (sortZ zs) p (by omega) (getI (sortZ zs) p)
    rw [if_pos rfl] at a1
    have a2 := cnt_part (zs := sortZ zs) (v := getI (sortZ zs) p) (p + 1) zs.length (by omega) (by omega)
    omega
  obtain ⟨e, e1, e2, e3⟩ := cnt_full zs.length (by omega) hc1
  rw [cs] at e3
  have hre := hr e (by omega)
  rw [e2, e3] at hre
  have hrq := hr q (by omega)
  have hqc := cnt_part (zs := sortZ zs) (v := getI (sortZ zs) q) (q + 1) zs.length (by omega) (by omega)
  rw [cs] at hqc
  have g1 := q3 e e1
  have g2 := p3 q q1
  unfold oftF at g2 p4
  have qp : p ≤ q := by
    refine Nat.le_of_not_lt fun hlt => ?_
    have := p4 q hlt
    omega
  have qe : q ≤ e := by
    refine Nat.le_of_not_lt fun hlt => ?_
    have := q4 e hlt
    omega
  have b1 := ho p q qp (by omega)
  have b2 := ho q e qe (by omega)
  show getI (sortZ zs) q = _
  omega
/-- a map that tells how often each number stands in a list -/
structure CntD (D : DataW Unit) (zs : List Int) : Prop where
  m : IsMap D
  a : ∀ v : Int, D.atKey (.int .i64 v) (.lit (.int .i64 0)) = .lit (.int .i64 ((cntI zs v : Nat) : Int))
theorem CntD.nil : CntD (.map []) [] := ⟨⟨_, rfl⟩, fun v => rfl⟩
theorem CntD.step {D : DataW Unit} {zs : List Int} (h : CntD D zs) (x : Int) : CntD (D.put (.int .i64 x) (.lit (.int .i64 (((cntI zs x : Nat) : Int) + 1)))) (zs ++ [x]) := by
  refine ⟨h.m.put _ _, fun v => ?_⟩
  rw [cntI_snoc]
  by_cases e : x = v
  · subst e
    rw [atKey_put_same h.m (show WideAt.IsKeyLit (Lit.int .i64 x) from trivial), if_pos rfl]; rfl
  · rw [atKey_put_other (fun e' => e (by injection e' with _ e'; exact e'.symm)), h.a, if_neg e]; rfl
theorem wf_many {x : Int} (h1 : -1000000 ≤ x) (h2 : x ≤ 1000000) : (Lit.int .i64 x).wf = true := by
  have e1 : IntKind.i64.min = -9223372036854775808 := by decide
  have e2 : IntKind.i64.max = 9223372036854775807 := by decide
  simp [Lit.wf, e1, e2]
  omega
def ManyOk (zs : List Int) : Prop := ∀ x ∈ zs, -1000000 ≤ x ∧ x ≤ 1000000
theorem ManyOk.at {zs : List Int} (h : ManyOk zs) {i : Nat} (hi : i < zs.length) : -1000000 ≤ getI zs i ∧ getI zs i ≤ 1000000 := by
  have e : getI zs i = zs[i] := by unfold getI; rw [List.getElem?_eq_getElem hi]; rfl
  rw [e]; exact h _ (List.getElem_mem hi)
theorem ManyOk.last {zs : List Int} (h : ManyOk zs) (long i : Nat) : ManyOk (lastZ zs long i) := fun x hx => h x (List.mem_of_mem_take (List.mem_of_mem_drop hx))
theorem many_of {zs : List Int} (h : manyB 1000000 zs = true) : ManyOk zs := fun x hx => by
  obtain ⟨i, hi, e⟩ := List.getElem_of_mem hx
  have := manyB_at h hi
  rw [List.getElem?_eq_getElem hi, e] at this
  exact this
theorem retB_o {a b : Bool} (h : a = b) : Ending.returned (.bool a) = Ending.returned (.bool b) := by rw [h]
theorem owns_map {P : Program} {k : TypeId} {R : Value → Option (DataW Unit × List MemPlace)} {w w' : World} {b n : Nat} {D : DataW Unit} (h : w.ownsMap P k R b n D) (e : w'.heap[b]? = w.heap[b]?) : w'.ownsMap P k R b n D := by
  obtain ⟨es, clock, hb, r⟩ := h
  exact ⟨es, clock, e.trans hb, r⟩
end Go.Proofs.Ytfbapbgiegploaa
/- FnLasts, plain: least, greatest, middle, most often of a window. -/
namespace Go.Proofs.Ytfbapbgiegploaa
open Go.ChangeShapes Go.WideShapes Go.ChangeAt Go.RowKit Go.Proofs.Ytfbapbgiegploaa.Flo
set_option linter.unusedVariables false
def cntB (zs : List Int) (x : Int) : Nat := (zs.filter fun z => decide (z < x)).length
def cntU (zs : List Int) (x : Int) : Nat := (zs.filter fun z => decide (z ≤ x)).length
theorem cntB_snoc (zs : List Int) (x : Int) {k : Nat} (hk : k < zs.length) : cntB (zs.take (k + 1)) x = cntB (zs.take k) x + if getI zs k < x then 1 else 0 := by
  unfold cntB getI
  rw [List.take_succ_eq_append_getElem hk, List.filter_append, List.length_append, List.getElem?_eq_getElem hk]
  by_cases h : zs[k] < x
  · simp [h]
  · simp [h]
theorem cntU_snoc (zs : List Int) (x : Int) {k : Nat} (hk : k < zs.length) : cntU (zs.take (k + 1)) x = cntU (zs.take k) x + if getI zs k ≤ x then 1 else 0 := by
  unfold cntU getI
  rw [List.take_succ_eq_append_getElem hk, List.filter_append, List.length_append, List.getElem?_eq_getElem hk]
  by_cases h : zs[k] ≤ x
  · simp [h]
  · simp [h]
theorem cntB_sort (zs : List Int) (x : Int) : cntB (sortZ zs) x = cntB zs x := ((List.mergeSort_perm zs _).filter _).length_eq
theorem cntU_sort (zs : List Int) (x : Int) : cntU (sortZ zs) x = cntU zs x := ((List.mergeSort_perm zs _).filter _).length_eq
theorem cntB_le (zs : List Int) (x : Int) : cntB zs x ≤ zs.length := List.length_filter_le _ _
theorem cntU_le (zs : List Int) (x : Int) : cntU zs x ≤ zs.length := List.length_filter_le _ _
theorem cntB_at {ys : List Int} {x : Int} {p : Nat} (hp : p ≤ ys.length) (h : ∀ j, p ≤ j → j < ys.length → ¬ getI ys j < x) : cntB ys x ≤ p := by
  have : ∀ d, p + d ≤ ys.length → cntB (ys.take (p + d)) x ≤ p := by
    intro d
    induction d with
    | zero => intro h; have := cntB_le (ys.take (p + 0)) x; rw [List.length_take] at this; omega
    | succ d ih =>
      intro hd
      rw [← Nat.add_assoc, cntB_snoc ys x (by omega), if_neg (h (p + d) (by omega) (by omega))]
      exact ih (by omega)
  have h2 := this (ys.length - p) (by omega)
  rw [show p + (ys.length - p) = ys.length by omega, List.take_length] at h2
  exact h2
theorem cntU_all {ys : List Int} {x : Int} : ∀ k, k ≤ ys.length → (∀ j, j < k → getI ys j ≤ x) → k ≤ cntU (ys.take k) x
  | 0, _, _ => Nat.zero_le _
  | k + 1, h, hj => by
    rw [cntU_snoc ys x (by omega), if_pos (hj k (by omega))]
    have := cntU_all k (by omega) (fun j h2 => hj j (by omega))
    omega
theorem cntU_mono {ys : List Int} {x : Int} {k : Nat} : ∀ d, k + d ≤ ys.length → cntU (ys.take k) x ≤ cntU (ys.take (k + d)) x
  | 0, _ => Nat.le_refl _
  | d + 1, h => by
    rw [← Nat.add_assoc, cntU_snoc ys x (by omega)]
    have := cntU_mono (x := x) d (show k + d ≤ ys.length by omega)
    omega
theorem cntU_ge {ys : List Int} {x : Int} {p : Nat} (hp : p ≤ ys.length) (h : ∀ j, j < p → getI ys j ≤ x) : p ≤ cntU ys x := by
  have h1 := cntU_all p hp h
  have h2 := cntU_mono (x := x) (ys.length - p) (show p + (ys.length - p) ≤ ys.length by omega)
  rw [show p + (ys.length - p) = ys.length by omega, List.take_length] at h2
  omega
/-- the middle: not more than half are below it, more are up to it -/
theorem mid_all {zs : List Int} (h1 : 1 ≤ zs.length) : cntB zs (midI zs) ≤ (zs.length - 1) / 2 ∧ (zs.length - 1) / 2 < cntU zs (midI zs) := by
  have hl := sortZ_length zs
  have ho := sort_in zs
  obtain ⟨q, hq⟩ : ∃ q, (zs.length - 1) / 2 = q := ⟨_, rfl⟩
  have hm : midI zs = getI (sortZ zs) q := by unfold midI getI; rw [hq]
  rw [hq, hm, ← cntB_sort, ← cntU_sort]
  refine ⟨cntB_at (by omega) fun j hj hj2 => ?_, ?_⟩
  · have := ho q j hj hj2; omega
  · exact cntU_ge (p := q + 1) (by omega) fun j hj => ho j q (by omega) (by omega)
theorem getI_mem {zs : List Int} {k : Nat} (h : k < zs.length) : getI zs k ∈ zs := by
  unfold getI; rw [List.getElem?_eq_getElem h]; exact List.getElem_mem h
theorem mem_getI {zs : List Int} {x : Int} (h : x ∈ zs) : ∃ k, k < zs.length ∧ getI zs k = x := by
  obtain ⟨k, hk, e⟩ := List.mem_iff_getElem.1 h
  exact ⟨k, hk, by unfold getI; rw [List.getElem?_eq_getElem hk]; exact e⟩
/-- the most often: none is more often, one as often is not less -/
theorem oft_all {zs : List Int} (h1 : 1 ≤ zs.length) {v : Int} (hv : v ∈ zs) : cntI zs v ≤ cntI zs (oftI zs) ∧ (cntI zs v = cntI zs (oftI zs) → oftI zs ≤ v) := by
  have hl := sortZ_length zs
  have ho := sort_in zs
  obtain ⟨p3, p4⟩ := least_ok (oftF zs) zs.length h1
  have p1 := leastAt_le (oftF zs) zs.length h1
  unfold oftI
  obtain ⟨p, hp⟩ : ∃ p, leastAt (oftF zs) zs.length = p := ⟨_, rfl⟩
  rw [hp] at p1 p3 p4 ⊢
  obtain ⟨k, hk, rfl⟩ := mem_getI ((sortZ_mem zs v).2 hv)
  have g := p3 k (by omega)
  unfold oftF at g p4
  refine ⟨by omega, fun he => ?_⟩
  by_cases hpk : p ≤ k
  · exact ho p k hpk hk
  · have := p4 k (by omega); omega
/-- the window's least, begun with its last -/
theorem least_from {zs : List Int} {long i : Nat} (hl : 1 ≤ long) (hi : i < zs.length) : (lastZ zs long i).foldl minI (getI zs i) = leastI (lastZ zs long i) ∧ (lastZ zs long i).foldl maxI (getI zs i) = mostI (lastZ zs long i) := by
  have hlen := lastZ_length zs long i hi
  have hg := lastZ_get zs long i (i - (i + 1 - long)) (by omega)
  rw [show i + 1 - long + (i - (i + 1 - long)) = i by omega] at hg
  rw [← hg]
  exact ⟨fold_from minI_ok _ _ (by omega), fold_from maxI_ok _ _ (by omega)⟩
theorem last_b {zs : List Int} (hb : ∀ i, -6 ≤ getI zs i ∧ getI zs i ≤ 6) (long i : Nat) (hi : i < zs.length) : ∀ k, -6 ≤ getI (lastZ zs long i) k ∧ getI (lastZ zs long i) k ≤ 6 := fun k => by
  have hlen := lastZ_length zs long i hi
  by_cases h : k < i + 1 - (i + 1 - long)
  · rw [lastZ_get zs long i k h]; exact hb _
  · have : getI (lastZ zs long i) k = 0 := by unfold getI; rw [List.getElem?_eq_none (by omega)]; rfl
    rw [this]; decide
/-- the mean of the window -/
theorem mean_last {zs : List Int} {fs : List Nat} (hf : fs = zs.map (floatOfInt .f32)) (hb : ∀ i, -6 ≤ getI zs i ∧ getI zs i ≤ 6) {long i : Nat} (h1 : 1 ≤ long) (h8 : long ≤ 8) (hi : i < zs.length) :
    mnV fs long i = some (mQ (sumI (lastZ zs long i)) ((i + 1 - (i + 1 - long) : Nat) : Int)) ∧ MeanOk (sumI (lastZ zs long i)) ((i + 1 - (i + 1 - long) : Nat) : Int) := by
  have hlen := lastZ_length zs long i hi
  rw [← hlen]
  refine meanV_int (last_b hb long i hi) (by omega) (by omega) (fs := lastG fs long i) ?_
  unfold lastG lastZ
  rw [hf, List.map_drop, List.map_take]
theorem mnR_last {zs : List Int} {fs : List Nat} (hf : fs = zs.map (floatOfInt .f32)) (hb : ∀ i, -6 ≤ getI zs i ∧ getI zs i ≤ 6) {long : Nat} (h1 : 1 ≤ long) (h8 : long ≤ 8) (hs : stB fs = true) :
    mnR fs (long : Int) = (mnL fs long, true) ∧ ∀ i, i < zs.length → getN (mnL fs long) i = mQ (sumI (lastZ zs long i)) ((i + 1 - (i + 1 - long) : Nat) : Int) ∧ MeanOk (sumI (lastZ zs long i)) ((i + 1 - (i + 1 - long) : Nat) : Int) := by
  have hfl : fs.length = zs.length := by rw [hf, List.length_map]
  refine ⟨?_, fun i hi => ?_⟩
  · refine mnR_yes (by unfold mnB; rw [hs, Bool.true_and]; exact inB_is.2 (by omega)) (allTo_yes fun i hi => ?_)
    obtain ⟨e, o⟩ := mean_last hf hb h1 h8 (i := i) (by omega)
    show finV (mnV fs long i) = true
    rw [e]
    exact o.fin
  · obtain ⟨e, o⟩ := mean_last hf hb h1 h8 (i := i) hi
    refine ⟨?_, o⟩
    unfold getN
    rw [mnL_get fs long i (by omega), e]
    rfl
end Go.Proofs.Ytfbapbgiegploaa
/- FnLasts, plain: all that its walk asks of the floats. -/
namespace Go.Proofs.Ytfbapbgiegploaa
open Go.ChangeShapes Go.WideShapes Go.ChangeAt Go.RowKit Go.Proofs.Ytfbapbgiegploaa.Flo
set_option linter.unusedVariables false
theorem bet_at {zs : List Int} (h : ∀ z ∈ zs, -6 ≤ z ∧ z ≤ 6) (i : Nat) : -6 ≤ getI zs i ∧ getI zs i ≤ 6 := by
  unfold getI
  by_cases hi : i < zs.length
  · rw [List.getElem?_eq_getElem hi]; exact h _ (List.getElem_mem hi)
  · rw [List.getElem?_eq_none (by omega)]; decide
theorem f6_zero : floatOfInt .f32 0 = 0 := by decide +kernel
theorem floats_six {zs : List Int} (h : ∀ z ∈ zs, -6 ≤ z ∧ z ≤ 6) {fs : List Nat} (hf : fs = zs.map (floatOfInt .f32)) : Floats6 zs fs := by
  refine ⟨bet_at h, fun i => ?_⟩
  unfold getN getI
  rw [hf, List.getElem?_map]
  by_cases hi : i < zs.length
  · rw [List.getElem?_eq_getElem hi]; rfl
  · rw [List.getElem?_eq_none (by omega)]
    show 0 = floatOfInt .f32 0
    rw [f6_zero]
def f6Ok (k : Nat) : Bool := isFin .f32 (floatOfInt .f32 ((k : Int) - 6)) && decide (floatOfInt .f32 ((k : Int) - 6) < 4294967296)
theorem f6All : (List.range 13).all f6Ok = true := by decide +kernel
theorem f6_ok {z : Int} (h : -6 ≤ z ∧ z ≤ 6) : isFin .f32 (floatOfInt .f32 z) = true ∧ floatOfInt .f32 z < 4294967296 := by
  have := List.all_eq_true.1 f6All (z + 6).toNat (List.mem_range.2 (by omega))
  unfold f6Ok at this
  rw [show (((z + 6).toNat : Nat) : Int) - 6 = z by omega, Bool.and_eq_true, decide_eq_true_eq] at this
  exact this
theorem floats_fin {zs : List Int} (h : ∀ z ∈ zs, -6 ≤ z ∧ z ≤ 6) {fs : List Nat} (hf : fs = zs.map (floatOfInt .f32)) : (∀ x ∈ fs, isFin .f32 x = true) ∧ ∀ x ∈ fs, x < 4294967296 := by
  subst hf
  refine ⟨fun x hx => ?_, fun x hx => ?_⟩ <;> obtain ⟨z, hz, rfl⟩ := List.mem_map.1 hx
  · exact (f6_ok (h z hz)).1
  · exact (f6_ok (h z hz)).2
theorem floats_st {zs : List Int} (h : ∀ z ∈ zs, -6 ≤ z ∧ z ≤ 6) {fs : List Nat} (hf : fs = zs.map (floatOfInt .f32)) (h1 : 1 ≤ zs.length) (h2 : zs.length ≤ 20) : stB fs = true := by
  have hl : fs.length = zs.length := by rw [hf, List.length_map]
  unfold stB
  rw [decide_eq_true (show 1 ≤ fs.length by omega), decide_eq_true (show fs.length ≤ 128 by omega), Bool.true_and, Bool.true_and]
  exact finB_mk fun i hi => by rw [List.getElem?_eq_getElem hi]; exact (floats_fin h hf).1 _ (List.getElem_mem hi)
theorem sh_half : shareB 1056964608 = true := by decide +kernel
theorem sh_one : shareB 1065353216 = true := by decide +kernel
/-- smoothing by a half -/
structure HalfOk (fs S : List Nat) : Prop where
  r : smR fs 1056964608 = (S, true)
  l : S.length = fs.length
  z : FloatKind.f32.format.order (getN S 0) (getN fs 0) = some .eq
  g : ∀ i, i + 1 < fs.length → ∃ A B X t1 t2 t3 p q, GapOk (getN S i) (getN S (i + 1)) (getN fs (i + 1)) A B X t1 t2 t3 p q
theorem half_ok {zs : List Int} {fs : List Nat} (h : Floats6 zs fs) (hs : stB fs = true) (h2 : fs.length ≤ 20) : HalfOk fs (smL fs 1056964608) := by
  have hg : ∀ i, i < fs.length → smN fs 1056964608 i = some (getN (smL fs 1056964608) i) := fun i hi => by
    obtain ⟨b, hb, _⟩ := smooth_dy h i (by omega)
    unfold getN
    rw [smL_get fs 1056964608 i hi, hb]; rfl
  have h1 := (st_ok hs).lo
  refine ⟨smR_yes (by unfold smB; rw [hs, sh_half]; rfl) (allTo_yes fun i hi => ?_), smL_length _ _, ?_, fun i hi => smooth_gap h (by omega) (hg i (by omega)) (hg (i + 1) hi)⟩
  · obtain ⟨b, hb, hd⟩ := smooth_dy h i (by omega)
    rw [hb]; exact dy_fin hd
  · obtain ⟨b, hb, hd⟩ := smooth_dy h 0 (by omega)
    rw [hg 0 (by omega)] at hb
    cases hb
    exact dy_order hd (h.dy 0)
/-- smoothing by one -/
structure StillOk (fs S : List Nat) : Prop where
  r : smR fs 1065353216 = (S, true)
  l : S.length = fs.length
  z : ∀ i, i < fs.length → FloatKind.f32.format.order (getN S i) (getN fs i) = some .eq
theorem still_ok {zs : List Int} {fs : List Nat} (h : Floats6 zs fs) (hs : stB fs = true) : StillOk fs (smL fs 1065353216) := by
  refine ⟨smR_yes (by unfold smB; rw [hs, sh_one]; rfl) (allTo_yes fun i hi => ?_), smL_length _ _, fun i hi => ?_⟩
  · obtain ⟨b, hb, hd⟩ := still_dy h i
    rw [hb]; exact dy_fin hd
  · obtain ⟨b, hb, hd⟩ := still_dy h i
    have e : getN (smL fs 1065353216) i = b := by unfold getN; rw [smL_get fs 1065353216 i hi, hb]; rfl
    rw [e]
    exact dy_order hd (h.dy i)
/-- what the window laws read -/
theorem read_yes {zs : List Int} (h : ∀ z ∈ zs, -6 ≤ z ∧ z ≤ 6) (h1 : 1 ≤ zs.length) (h2 : zs.length ≤ 20) {L : Nat} (l1 : 1 ≤ L) (l8 : L ≤ 8) : readB zs (L : Int) = true := by
  unfold readB
  rw [decide_eq_true (show 1 ≤ zs.length ∧ zs.length ≤ 128 by omega), decide_eq_true (show 1 ≤ (L : Int) ∧ (L : Int) ≤ 128 by omega), Bool.and_true, Bool.true_and]
  exact List.all_eq_true.2 fun z hz => by have := h z hz; first | exact inB_is.2 (by omega) | (simp; omega)
end Go.Proofs.Ytfbapbgiegploaa
