/- FnLists, plain: shares of sixteenths, ranks in ascending lists. -/
import Derived.Test.YtibldgcfplpdkaaBtn
import Derived.Test.YtibldgcfplpdkaaQui
namespace Go.Proofs.Ytibldgcfplpdkaa
open Go.ChangeShapes Go.WideShapes Go.ChangeAt Go.RowKit Go.Proofs.Ytibldgcfplpdkaa.Flo
set_option linter.unusedVariables false
def fi64 (v : Nat) : Nat := floatOfInt .f64 (v : Int)
def shV (k : Nat) : Nat := (floatBits .quo .f32 (floatOfInt .f32 (k : Int)) 1098907648).getD 0
def wkV (k : Nat) : Nat := (floatToFloatBits .f32 (shV k) .f64).getD 0
def pkV (k n : Nat) : Nat := (floatBits .mul .f64 (wkV k) (fi64 n)).getD 0
def skV (k n : Nat) : Nat := (floatBits .sub .f64 (pkV k n) 4562254508917369340).getD 0
def akV (k n : Nat) : Nat := (floatBits .add .f64 (pkV k n) 4562254508917369340).getD 0
def geqD (x y : Nat) : Bool := FloatKind.f64.format.order x y == some .gt || FloatKind.f64.format.order x y == some .eq
def ltD (x y : Nat) : Bool := FloatKind.f64.format.order x y == some .lt
def chkV (p : Int) (s a v : Nat) : Bool := if (v : Int) < p then ltD (fi64 v) a else geqD (fi64 v) s
def chkS (k : Nat) : Bool := (floatBits .quo .f32 (floatOfInt .f32 (k : Int)) 1098907648 == some (shV k)) && (shareB (shV k) && (decide (shV k < 4294967296) && (floatToFloatBits .f32 (shV k) .f64 == some (wkV k))))
def chkN (k n : Nat) : Bool := (floatBits .mul .f64 (wkV k) (fi64 n) == some (pkV k n)) && ((floatBits .sub .f64 (pkV k n) 4562254508917369340 == some (skV k n)) && ((floatBits .add .f64 (pkV k n) 4562254508917369340 == some (akV k n)) && (List.range 21).all (chkV (placeR (shV k) n) (skV k n) (akV k n))))
theorem allS : (List.range 17).all chkS = true := by decide +kernel
theorem allN : ((List.range 17).all fun k => (List.range 20).all fun n => chkN k (n + 1)) = true := by decide +kernel
theorem shV_all {k : Nat} (h : k < 17) : floatBits .quo .f32 (floatOfInt .f32 (k : Int)) 1098907648 = some (shV k) ∧ shareB (shV k) = true ∧ shV k < 4294967296 ∧ floatToFloatBits .f32 (shV k) .f64 = some (wkV k) := by
  have := List.all_eq_true.1 allS k (List.mem_range.2 h)
  unfold chkS at this
  simp only [Bool.and_eq_true, beq_iff_eq, decide_eq_true_eq] at this
  exact ⟨this.1, this.2.1, this.2.2.1, this.2.2.2⟩
theorem nV_all {k n : Nat} (h : k < 17) (h1 : 1 ≤ n) (h2 : n ≤ 20) : floatBits .mul .f64 (wkV k) (fi64 n) = some (pkV k n) ∧ floatBits .sub .f64 (pkV k n) 4562254508917369340 = some (skV k n) ∧ floatBits .add .f64 (pkV k n) 4562254508917369340 = some (akV k n) ∧
    (∀ v : Nat, v ≤ 20 → placeR (shV k) n ≤ v → geqD (fi64 v) (skV k n) = true) ∧ ∀ v : Nat, v ≤ 20 → (v : Int) < placeR (shV k) n → ltD (fi64 v) (akV k n) = true := by
  have := List.all_eq_true.1 (List.all_eq_true.1 allN k (List.mem_range.2 h)) (n - 1) (List.mem_range.2 (by omega))
  rw [show n - 1 + 1 = n by omega] at this
  unfold chkN at this
  simp only [Bool.and_eq_true, beq_iff_eq] at this
  obtain ⟨h1, h2, h3, h4⟩ := this
  refine ⟨h1, h2, h3, fun v hv hp => ?_, fun v hv hp => ?_⟩
  · have := List.all_eq_true.1 h4 v (List.mem_range.2 (by omega))
    unfold chkV at this
    rw [if_neg (by omega)] at this; exact this
  · have := List.all_eq_true.1 h4 v (List.mem_range.2 (by omega))
    unfold chkV at this
    rw [if_pos hp] at this; exact this
/-- numbers before one -/
def cntLt (zs : List Nat) (x : Nat) : Nat := (zs.filter fun z => decide (fkey z < fkey x)).length
theorem cntLt_snoc (zs : List Nat) (x : Nat) {k : Nat} (hk : k < zs.length) : cntLt (zs.take (k + 1)) x = cntLt (zs.take k) x + if fkey (getN zs k) < fkey x then 1 else 0 := by
  unfold cntLt getN
  rw [List.take_succ_eq_append_getElem hk, List.filter_append, List.length_append, List.getElem?_eq_getElem hk]
  by_cases h : fkey zs[k] < fkey x
  · simp [h]
  · simp [h]
theorem cntLt_sort (zs : List Nat) (x : Nat) : cntLt (sortF zs) x = cntLt zs x := ((List.mergeSort_perm zs leF).filter _).length_eq
theorem cntLt_take (zs : List Nat) (x : Nat) : ∀ k, k ≤ zs.length → cntLt (zs.take k) x ≤ k
  | 0, _ => by simp [cntLt]
  | k + 1, h => by
    have := cntLt_take zs x k (by omega)
    rw [cntLt_snoc zs x (by omega)]; split <;> omega
/-- those behind p are not before x -/
theorem cntLt_le {ys : List Nat} {x p : Nat} (hp : p ≤ ys.length) (h : ∀ j, p ≤ j → j < ys.length → ¬ fkey (getN ys j) < fkey x) : cntLt ys x ≤ p := by
  have : ∀ d, p + d ≤ ys.length → cntLt (ys.take (p + d)) x ≤ p := by
    intro d
    induction d with
    | zero => intro h; exact cntLt_take ys x p hp
    | succ d ih =>
      intro hd
      rw [← Nat.add_assoc, cntLt_snoc ys x (by omega), if_neg (h (p + d) (by omega) (by omega))]
      exact ih (by omega)
  have h2 := this (ys.length - p) (by omega)
  rw [show p + (ys.length - p) = ys.length by omega, List.take_length] at h2
  exact h2
theorem cntLe_take_all {ys : List Nat} {x : Nat} : ∀ k, k ≤ ys.length → (∀ j, j < k → fkey (getN ys j) ≤ fkey x) → k ≤ cntLe (ys.take k) x
  | 0, _, _ => Nat.zero_le _
  | k + 1, h, hj => by
    rw [cntLe_snoc ys x (by omega), if_pos (hj k (by omega))]
    have := cntLe_take_all k (by omega) (fun j h2 => hj j (by omega))
    omega
theorem cntLe_mono {ys : List Nat} {x k : Nat} : ∀ d, k + d ≤ ys.length → cntLe (ys.take k) x ≤ cntLe (ys.take (k + d)) x
  | 0, _ => Nat.le_refl _
  | d + 1, h => by
    rw [← Nat.add_assoc, cntLe_snoc ys x (by omega)]
    have := cntLe_mono (x := x) d (show k + d ≤ ys.length by omega)
    omega
theorem cntLe_ge {ys : List Nat} {x p : Nat} (hp : p ≤ ys.length) (h : ∀ j, j < p → fkey (getN ys j) ≤ fkey x) : p ≤ cntLe ys x := by
  have h1 := cntLe_take_all p hp h
  have h2 := cntLe_mono (x := x) (ys.length - p) (show p + (ys.length - p) ≤ ys.length by omega)
  rw [show p + (ys.length - p) = ys.length by omega, List.take_length] at h2
  omega
/-- the rank of the number at i, whose equals end at l -/
theorem rank_last {zs : List Nat} {i l : Nat} (hl : l < zs.length) (hi : i ≤ l) (h : ∀ j, i ≤ j → j ≤ l → fkey (getN (sortF zs) j) = fkey (getN (sortF zs) i)) (hn : l + 1 = zs.length ∨ fkey (getN (sortF zs) (l + 1)) ≠ fkey (getN (sortF zs) i)) : cntLe zs (getN (sortF zs) i) = l + 1 := by
  have ha := sortF_asc zs
  have hlen := sortF_length zs
  rw [← cntLe_sort]
  refine cntLe_at (by omega) (fun j hj => ?_) (fun j h1 h2 => ?_)
  · by_cases e : j ≤ i
    · exact ha j i e (by omega)
    · rw [h j (by omega) (by omega)]; exact Int.le_refl _
  · rcases hn with hn | hn
    · omega
    · have a1 := ha i (l + 1) (by omega) (by omega)
      have a2 := ha (l + 1) j (by omega) h2
      omega
/-- the facts on a quantile -/
theorem quan_all {zs : List Nat} {p : Nat} (h1 : 1 ≤ p) (h2 : p ≤ zs.length) : p ≤ cntLe zs (getN (sortF zs) (p - 1)) ∧ cntLe zs (getN (sortF zs) (p - 1)) ≤ zs.length ∧ cntLt zs (getN (sortF zs) (p - 1)) ≤ p - 1 := by
  have ha := sortF_asc zs
  have hlen := sortF_length zs
  refine ⟨?_, cntLe_le _ _, ?_⟩
  · rw [← cntLe_sort]
    exact cntLe_ge (by omega) (fun j hj => ha j (p - 1) (by omega) (by omega))
  · rw [← cntLt_sort]
    exact cntLt_le (by omega) (fun j hj hj2 => by have := ha (p - 1) j hj hj2; omega)
end Go.Proofs.Ytibldgcfplpdkaa
