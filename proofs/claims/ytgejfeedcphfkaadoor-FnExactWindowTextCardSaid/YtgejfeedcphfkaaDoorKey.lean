/- AreKeys, HashRow: what both sides answer. -/
import Derived.Test.YtgejfeedcphfkaaDoorHas
import Derived.Test.YtgejfeedcphfkaaDoorIls
namespace Go.Proofs.YtgejfeedcphfkaaDoor
open Go.ChangeShapes Go.WideShapes Go.ChangeAt Go.RowKit
set_option linter.unusedVariables false

/-- a list of keys -/
def keysB (zs : List Int) : Bool := decide (zs.length ≤ 256) && zs.all keyB
theorem keysB_long {zs : List Int} (h : 256 < zs.length) : keysB zs = false := by unfold keysB; rw [decide_eq_false (by omega)]; rfl
theorem keysB_short {zs : List Int} (h : zs.length ≤ 256) : keysB zs = zs.all keyB := by unfold keysB; rw [decide_eq_true h]; rfl
theorem keysB_bad {zs : List Int} {k : Nat} (hk : k < zs.length) (h : keyB (zs[k]?.getD 0) = false) : keysB zs = false := by
  unfold keysB
  have : zs.all keyB = false := by
    rw [List.all_eq_false]
    exact ⟨zs[k], List.getElem_mem hk, by rw [List.getElem?_eq_getElem hk] at h; simpa using h⟩
  rw [this, Bool.and_false]
theorem keys_step {zs : List Int} {k : Nat} (hk : k < zs.length) (ha : (zs.take k).all keyB = true) (h : keyB (zs[k]?.getD 0) = true) : (zs.take (k + 1)).all keyB = true := by
  rw [List.take_succ_eq_append_getElem hk, List.all_append, ha]
  rw [List.getElem?_eq_getElem hk] at h
  simpa using h
theorem keys_end {zs : List Int} (ha : (zs.take zs.length).all keyB = true) (h : zs.length ≤ 256) : keysB zs = true := by
  rw [List.take_length] at ha
  rw [keysB_short h, ha]
theorem keysB_at {zs : List Int} (h : keysB zs = true) {k : Nat} (hk : k < zs.length) : keyB (zs[k]?.getD 0) = true := by
  unfold keysB at h
  simp only [Bool.and_eq_true, List.all_eq_true] at h
  rw [List.getElem?_eq_getElem hk]
  exact h.2 _ (List.getElem_mem hk)
theorem keysB_len {zs : List Int} (h : keysB zs = true) : zs.length ≤ 256 := by
  unfold keysB at h
  simp only [Bool.and_eq_true, decide_eq_true_eq] at h
  exact h.1
/-- the hashes of keys -/
def rowZ (zs : List Int) (salt : Int) : List Int := zs.map fun k => ((hashN k salt : Nat) : Int)
theorem rowZ_length (zs : List Int) (salt : Int) : (rowZ zs salt).length = zs.length := List.length_map _
theorem rowZ_get (zs : List Int) (salt : Int) (k : Nat) (h : k < zs.length) : (rowZ zs salt)[k]?.getD 0 = ((hashN (zs[k]?.getD 0) salt : Nat) : Int) := by simp [rowZ, h]
end Go.Proofs.YtgejfeedcphfkaaDoor
