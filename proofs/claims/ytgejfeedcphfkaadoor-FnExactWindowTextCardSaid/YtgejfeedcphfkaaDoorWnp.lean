/- Windows: plain facts (times in order, sizes, runs of equal sizes, what is kept). No program. -/
import Derived.Test.YtgejfeedcphfkaaDoorAll
import Derived.Test.YtgejfeedcphfkaaDoorKin
namespace Go.Proofs.YtgejfeedcphfkaaDoor
open Go Go.RowKit
set_option linter.unusedVariables false
theorem inB_isW {lo k hi : Int} : inB lo k hi = true ↔ lo ≤ k ∧ k ≤ hi := by unfold inB; exact decide_eq_true_iff
theorem upB_all (m : Int) (zs : List Int) : upB m zs = allTo zs.length fun i => inB 0 (getI zs i) m := by
  cases ha : allTo zs.length fun i => inB 0 (getI zs i) m
  · unfold upB
    rw [List.all_eq_false]
    apply Classical.byContradiction
    intro hn
    have : (allTo zs.length fun i => inB 0 (getI zs i) m) = true := allTo_yes fun i hi => by
      cases hb : inB 0 (getI zs i) m
      · exact absurd ⟨zs[i], List.getElem_mem hi, by unfold getI at hb; rw [List.getElem?_eq_getElem hi] at hb; simpa using hb⟩ hn
      · rfl
    rw [this] at ha; cases ha
  · unfold upB
    rw [List.all_eq_true]
    intro x hx
    obtain ⟨i, hi, rfl⟩ := List.getElem_of_mem hx
    have := allTo_at ha hi
    unfold getI at this
    rw [List.getElem?_eq_getElem hi] at this
    exact this
/-- a number is none below the one before -/
def ascAt (ts : List Int) (i : Nat) : Bool := decide (i = 0) || decide (getI ts (i - 1) ≤ getI ts i)
def ascI (ts : List Int) : Bool := allTo ts.length (ascAt ts)
theorem ascAt_0 (ts : List Int) : ascAt ts 0 = true := rfl
theorem ascAt_s {ts : List Int} {i : Nat} (h : getI ts i ≤ getI ts (i + 1)) : ascAt ts (i + 1) = true := by
  unfold ascAt; rw [decide_eq_true (show getI ts (i + 1 - 1) ≤ getI ts (i + 1) from h)]; simp
theorem ascAt_n {ts : List Int} {i : Nat} (h : getI ts (i + 1) < getI ts i) : ascAt ts (i + 1) = false := by
  unfold ascAt; rw [decide_eq_false (show ¬ getI ts (i + 1 - 1) ≤ getI ts (i + 1) from by show ¬ getI ts i ≤ getI ts (i + 1); omega)]; simp
theorem ascAt_le {ts : List Int} {i : Nat} (h : ascAt ts (i + 1) = true) : getI ts i ≤ getI ts (i + 1) := by
  apply Classical.byContradiction
  intro hn
  rw [ascAt_n (by omega)] at h; cases h
theorem asc_le {ts : List Int} {n : Nat} (h : ∀ i, i < n → ascAt ts i = true) : ∀ d i, i + d < n → getI ts i ≤ getI ts (i + d)
  | 0, i, _ => Int.le_refl _
  | d + 1, i, hd => Int.le_trans (asc_le h d i (by omega)) (ascAt_le (h (i + d + 1) (by omega)))
/-- a time, none below the one before -/
def tAt (ts : List Int) (i : Nat) : Bool := inB 0 (getI ts i) 1000000 && ascAt ts i
def timesB (ts : List Int) : Bool := allTo ts.length (tAt ts)
theorem timesB_split (ts : List Int) : timesB ts = (upB 1000000 ts && ascI ts) := by
  rw [upB_all]; unfold timesB ascI; exact allTo_and _ _ _
/-- powers of two up to 2 ^ 20 -/
def powB (x : Int) : Bool := (List.range 21).any fun k => decide (x = ((2 ^ k : Nat) : Int))
theorem powB_mk {x : Int} {k : Nat} (hk : k < 21) (h : x = ((2 ^ k : Nat) : Int)) : powB x = true := by
  unfold powB; rw [List.any_eq_true]; exact ⟨k, List.mem_range.2 hk, decide_eq_true h⟩
theorem powB_no {x : Int} (h : ∀ k, k < 21 → x ≠ ((2 ^ k : Nat) : Int)) : powB x = false := by
  unfold powB; rw [List.any_eq_false]; intro k hk; rw [decide_eq_false (h k (List.mem_range.1 hk))]; decide
theorem powB_ex {x : Int} (h : powB x = true) : ∃ k, k < 21 ∧ x = ((2 ^ k : Nat) : Int) := by
  unfold powB at h; rw [List.any_eq_true] at h
  obtain ⟨k, hk, hx⟩ := h
  exact ⟨k, List.mem_range.1 hk, of_decide_eq_true hx⟩
theorem pow21 {k : Nat} (hk : k < 21) : 1 ≤ 2 ^ k ∧ 2 ^ k ≤ 1048576 :=
  ⟨Nat.one_le_two_pow, Nat.le_trans (Nat.pow_le_pow_right (by decide) (show k ≤ 20 by omega)) (by decide)⟩
theorem powB_bd {x : Int} (h : powB x = true) : 1 ≤ x ∧ x ≤ 1048576 := by
  obtain ⟨k, hk, rfl⟩ := powB_ex h
  have := pow21 hk
  omega
theorem powB_out {x : Int} (h : x < 1 ∨ 1048576 < x) : powB x = false := by
  cases hp : powB x
  · rfl
  · have := powB_bd hp; omega
theorem and_i64w (n c : Nat) (hn : n < 9223372036854775808) (hc : c < 9223372036854775808) : bits .and .i64 (n : Int) (c : Int) = ((n &&& c : Nat) : Int) := by
  have hlt : n &&& c < 9223372036854775808 := Nat.lt_of_le_of_lt Nat.and_le_left hn
  have e : (BitVec.ofInt 64 (n : Int) &&& BitVec.ofInt 64 (c : Int)).toNat = n &&& c := by
    rw [BitVec.toNat_and, BitVec.toNat_ofInt, BitVec.toNat_ofInt]
    have a1 : ((n : Int) % ((2 ^ 64 : Nat) : Int)).toNat = n := by
      have : ((2 ^ 64 : Nat) : Int) = 18446744073709551616 := rfl
      rw [this]; omega
    have a2 : ((c : Int) % ((2 ^ 64 : Nat) : Int)).toNat = c := by
      have : ((2 ^ 64 : Nat) : Int) = 18446744073709551616 := rfl
      rw [this]; omega
    rw [a1, a2]
  show IntKind.i64.wrap (((BitVec.ofInt 64 (n : Int) &&& BitVec.ofInt 64 (c : Int)).toNat : Nat) : Int) = _
  rw [e, IntKind.wrap_i64]
  omega
theorem and_less {n : Nat} (h1 : 1 ≤ n) (h : n &&& (n - 1) = 0) : n = 2 ^ n.log2 := by
  have hn : n ≠ 0 := by omega
  have hl := Nat.log2_self_le hn
  have hu := Nat.lt_log2_self (n := n)
  apply Classical.byContradiction
  intro hne
  have b1 : n.testBit n.log2 = true := by
    rw [Nat.testBit_eq_decide_div_mod_eq, decide_eq_true_eq]
    have : n / 2 ^ n.log2 = 1 := Nat.div_eq_of_lt_le (by omega) (by rw [show (1 + 1) = 2 from rfl, Nat.mul_comm, ← Nat.pow_succ]; exact hu)
    rw [this]
  have b2 : (n - 1).testBit n.log2 = true := by
    rw [Nat.testBit_eq_decide_div_mod_eq, decide_eq_true_eq]
    have : (n - 1) / 2 ^ n.log2 = 1 := Nat.div_eq_of_lt_le (by omega) (by rw [show (1 + 1) = 2 from rfl, Nat.mul_comm, ← Nat.pow_succ]; omega)
    rw [this]
  have b3 : (n &&& (n - 1)).testBit n.log2 = true := by rw [Nat.testBit_and, b1, b2]; rfl
  rw [h] at b3
  simp at b3
theorem and_pow (k : Nat) : 2 ^ k &&& (2 ^ k - 1) = 0 := by
  rw [Nat.and_two_pow_sub_one_eq_mod]; exact Nat.mod_self _
theorem and_powB {x : Int} (h1 : 1 ≤ x) (h2 : x ≤ 1048576) : (bits .and .i64 x (x - 1) == 0) = powB x := by
  obtain ⟨n, rfl⟩ : ∃ n : Nat, x = (n : Int) := ⟨x.toNat, by omega⟩
  have e : ((n : Int) - 1) = ((n - 1 : Nat) : Int) := by omega
  rw [e, and_i64w n (n - 1) (by omega) (by omega)]
  by_cases h : n &&& (n - 1) = 0
  · have hp := and_less (by omega) h
    have hk : n.log2 < 21 := by
      apply Classical.byContradiction
      intro hn
      have : 2 ^ 21 ≤ 2 ^ n.log2 := Nat.pow_le_pow_right (by decide) (by omega)
      have e2 : (2 : Nat) ^ 21 = 2097152 := by decide
      omega
    rw [powB_mk hk (by rw [← hp]), h]; rfl
  · have hb : ((((n &&& (n - 1) : Nat) : Int)) == 0) = false := by
      rw [beq_eq_false_iff_ne]; omega
    rw [hb]
    refine (powB_no fun k hk he => h ?_).symm
    have : n = 2 ^ k := by omega
    rw [this]; exact and_pow k
/-- a size, none greater than the one before, not once too often -/
def sAt (m : Nat) (zs : List Int) (i : Nat) : Bool := decide (i < m) || !decide (getI zs i = getI zs (i - m))
def dAt (zs : List Int) (i : Nat) : Bool := decide (i = 0) || decide (getI zs i ≤ getI zs (i - 1))
def zAt (m : Nat) (zs : List Int) (i : Nat) : Bool := powB (getI zs i) && (dAt zs i && sAt m zs i)
def sizesB (m : Nat) (zs : List Int) : Bool := allTo zs.length (zAt m zs)
theorem dAt_0 (zs : List Int) : dAt zs 0 = true := rfl
theorem dAt_s {zs : List Int} {i : Nat} (h : getI zs (i + 1) ≤ getI zs i) : dAt zs (i + 1) = true := by
  unfold dAt; rw [decide_eq_true (show getI zs (i + 1) ≤ getI zs (i + 1 - 1) from h)]; simp
theorem dAt_n {zs : List Int} {i : Nat} (h : getI zs i < getI zs (i + 1)) : dAt zs (i + 1) = false := by
  unfold dAt; rw [decide_eq_false (show ¬ getI zs (i + 1) ≤ getI zs (i + 1 - 1) from by show ¬ getI zs (i + 1) ≤ getI zs i; omega)]; simp
theorem dAt_le {zs : List Int} {i : Nat} (h : dAt zs (i + 1) = true) : getI zs (i + 1) ≤ getI zs i := by
  apply Classical.byContradiction
  intro hn
  rw [dAt_n (by omega)] at h; cases h
theorem desc_le {zs : List Int} {n : Nat} (h : ∀ i, i < n → dAt zs i = true) : ∀ d i, i + d < n → getI zs (i + d) ≤ getI zs i
  | 0, i, _ => Int.le_refl _
  | d + 1, i, hd => Int.le_trans (dAt_le (h (i + d + 1) (by omega))) (desc_le h d i (by omega))
theorem sAt_lo {m : Nat} {zs : List Int} {i : Nat} (h : i < m) : sAt m zs i = true := by unfold sAt; rw [decide_eq_true h]; rfl
theorem sAt_ne {m : Nat} {zs : List Int} {i : Nat} (h : getI zs i ≠ getI zs (i - m)) : sAt m zs i = true := by unfold sAt; rw [decide_eq_false h]; simp
theorem sAt_no {m : Nat} {zs : List Int} {i : Nat} (h : m ≤ i) (h2 : getI zs i = getI zs (i - m)) : sAt m zs i = false := by unfold sAt; rw [decide_eq_false (by omega), decide_eq_true h2]; rfl
/-- how many equal ones end at a place -/
def runAt (zs : List Int) : Nat → Nat
  | 0 => 1
  | i + 1 => if getI zs (i + 1) = getI zs i then runAt zs i + 1 else 1
theorem runAt_eq {zs : List Int} {i : Nat} (h : getI zs (i + 1) = getI zs i) : runAt zs (i + 1) = runAt zs i + 1 := if_pos h
theorem runAt_ne {zs : List Int} {i : Nat} (h : getI zs (i + 1) ≠ getI zs i) : runAt zs (i + 1) = 1 := if_neg h
theorem runAt_spec (zs : List Int) : ∀ i, 1 ≤ runAt zs i ∧ runAt zs i ≤ i + 1 ∧ (∀ j, j ≤ i → i < j + runAt zs i → getI zs j = getI zs i) ∧ (runAt zs i ≤ i → getI zs (i - runAt zs i) ≠ getI zs i)
  | 0 => ⟨Nat.le_refl _, Nat.le_refl _, fun j h _ => by rw [show j = 0 by omega], fun h => by have : (1 : Nat) ≤ 0 := h; omega⟩
  | i + 1 => by
    obtain ⟨h0, h1, h2, h3⟩ := runAt_spec zs i
    by_cases he : getI zs (i + 1) = getI zs i
    · rw [runAt_eq he]
      refine ⟨by omega, by omega, fun j hj hl => ?_, fun h => ?_⟩
      · by_cases e : j = i + 1
        · rw [e]
        · rw [h2 j (by omega) (by omega), he]
      · rw [show i + 1 - (runAt zs i + 1) = i - runAt zs i by omega, he]; exact h3 (by omega)
    · rw [runAt_ne he]
      refine ⟨by omega, by omega, fun j hj hl => by rw [show j = i + 1 by omega], fun h => ?_⟩
      rw [show i + 1 - 1 = i by omega]; exact fun e => he e.symm
theorem run_over {zs : List Int} {m i : Nat} (hm : 1 ≤ m) (hd : ∀ j, j < i + 1 → dAt zs j = true) : (m < runAt zs i) ↔ sAt m zs i = false := by
  obtain ⟨h0, h1, h2, h3⟩ := runAt_spec zs i
  constructor
  · intro h
    exact sAt_no (by omega) (h2 (i - m) (by omega) (by omega)).symm
  · intro h
    apply Classical.byContradiction
    intro hn
    by_cases h4 : i < m
    · rw [sAt_lo h4] at h; cases h
    by_cases h5 : getI zs i = getI zs (i - m)
    · have h6 := h3 (by omega)
      have a1 := desc_le hd (runAt zs i) (i - runAt zs i) (by omega)
      have a2 := desc_le hd (m - runAt zs i) (i - m) (by omega)
      rw [show i - runAt zs i + runAt zs i = i by omega] at a1
      rw [show i - m + (m - runAt zs i) = i - runAt zs i by omega] at a2
      omega
    · rw [sAt_ne h5] at h; cases h
def winD (L P : Int) (n k : Nat) : Bool := inB 1 L 1000000 && (inB 1 P 16 && (decide (n ≤ 128) && decide (k = n)))
structure WinD (L P : Int) (n k : Nat) : Prop where
  l1 : 1 ≤ L
  l2 : L ≤ 1000000
  p1 : 1 ≤ P
  p2 : P ≤ 16
  hn : n ≤ 128
  hk : k = n
theorem winD_ok {L P : Int} {n k : Nat} (h : winD L P n k = true) : WinD L P n k := by
  unfold winD at h
  simp only [Bool.and_eq_true, decide_eq_true_eq, inB_isW] at h
  exact ⟨h.1.1, h.1.2, h.2.1.1, h.2.1.2, h.2.2.1, h.2.2.2⟩
theorem WinD.b {L P : Int} {n k : Nat} (h : WinD L P n k) : winD L P n k = true := by
  unfold winD
  rw [inB_isW.2 ⟨h.l1, h.l2⟩, inB_isW.2 ⟨h.p1, h.p2⟩, decide_eq_true h.hn, decide_eq_true h.hk]; rfl
def winB (L P : Int) (ts zs : List Int) : Bool := winD L P ts.length zs.length && (timesB ts && sizesB (P + 1).toNat zs)
theorem winB_dim {L P : Int} {ts zs : List Int} (h : ¬ WinD L P ts.length zs.length) : winB L P ts zs = false := by
  cases hd : winD L P ts.length zs.length
  · unfold winB; rw [hd]; rfl
  · exact absurd (winD_ok hd) h
theorem winB_yes {L P : Int} {ts zs : List Int} (h : WinD L P ts.length zs.length) : winB L P ts zs = (timesB ts && sizesB (P + 1).toNat zs) := by
  unfold winB; rw [h.b, Bool.true_and]
/-- a valid window -/
structure WinOk (L P : Int) (ts zs : List Int) : Prop where
  d : WinD L P ts.length zs.length
  t : ∀ i, i < ts.length → 0 ≤ getI ts i ∧ getI ts i ≤ 1000000
  a : ∀ i, i < ts.length → ascAt ts i = true
  z : ∀ i, i < ts.length → 1 ≤ getI zs i ∧ getI zs i ≤ 1048576
theorem win_ok {L P : Int} {ts zs : List Int} (h : winB L P ts zs = true) : WinOk L P ts zs := by
  cases hd : winD L P ts.length zs.length
  · unfold winB at h; rw [hd] at h; cases h
  have D := winD_ok hd
  rw [winB_yes D, Bool.and_eq_true] at h
  obtain ⟨h1, h2⟩ := h
  have t1 : ∀ i, i < ts.length → inB 0 (getI ts i) 1000000 = true ∧ ascAt ts i = true := fun i hi => by
    have := allTo_at h1 hi; unfold tAt at this; rw [Bool.and_eq_true] at this; exact this
  refine ⟨D, fun i hi => inB_isW.1 (t1 i hi).1, fun i hi => (t1 i hi).2, fun i hi => ?_⟩
  have := allTo_at h2 (show i < zs.length by rw [D.hk]; exact hi)
  unfold zAt at this; rw [Bool.and_eq_true] at this
  exact powB_bd this.1
end Go.Proofs.YtgejfeedcphfkaaDoor
