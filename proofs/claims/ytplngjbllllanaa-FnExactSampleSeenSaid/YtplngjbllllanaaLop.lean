/- The last ones of each index of a list (plain). -/
import Derived.Test.YtplngjbllllanaaAll
import Derived.Test.YtplngjbllllanaaCis3
namespace Go.Proofs.Ytplngjbllllanaa
open Go.ChangeShapes Go.WideShapes Go.ChangeAt Go.RowKit
set_option linter.unusedVariables false
structure OpOk (op : Int → Int → Int) : Prop where
  c : ∀ a b, op a b = op b a
  a : ∀ a b c, op (op a b) c = op a (op b c)
  i : ∀ a, op a a = a
theorem fold_out {op : Int → Int → Int} (h : OpOk op) : ∀ (l : List Int) (x y : Int), l.foldl op (op x y) = op x (l.foldl op y)
  | [], x, y => rfl
  | z :: l, x, y => by rw [List.foldl_cons, List.foldl_cons, h.a, fold_out h l x (op y z)]
theorem fold_in {op : Int → Int → Int} (h : OpOk op) : ∀ (l : List Int) (x y : Int), x ∈ l → op x (l.foldl op y) = l.foldl op y
  | [], x, y, hx => absurd hx (List.not_mem_nil)
  | z :: l, x, y, hx => by
    rw [List.foldl_cons]
    rcases List.mem_cons.1 hx with rfl | hx
    · rw [← fold_out h, show op x (op y x) = op y x by rw [h.c y x, ← h.a, h.i]]
    · exact fold_in h l x _ hx
theorem fold_same {op : Int → Int → Int} (h : OpOk op) {l : List Int} {x y : Int} (hx : x ∈ l) (hy : y ∈ l) : l.foldl op x = l.foldl op y := by
  rw [← fold_in h l x y hx, ← fold_out h, h.c, fold_out h, fold_in h l y x hy]
def minI (a b : Int) : Int := if b < a then b else a
def maxI (a b : Int) : Int := if a < b then b else a
theorem minI_ok : OpOk minI := ⟨fun a b => by unfold minI; omega, fun a b c => by unfold minI; omega, fun a => by unfold minI; omega⟩
theorem maxI_ok : OpOk maxI := ⟨fun a b => by unfold maxI; omega, fun a b c => by unfold maxI; omega, fun a => by unfold maxI; omega⟩
/-- the last ones, at most 'long', of index i -/
def lastZ (zs : List Int) (long i : Nat) : List Int := (zs.take (i + 1)).drop (i + 1 - long)
theorem lastZ_length (zs : List Int) (long i : Nat) (hi : i < zs.length) : (lastZ zs long i).length = i + 1 - (i + 1 - long) := by
  unfold lastZ; rw [List.length_drop, List.length_take]; omega
theorem lastZ_get (zs : List Int) (long i k : Nat) (hk : k < i + 1 - (i + 1 - long)) : getI (lastZ zs long i) k = getI zs (i + 1 - long + k) := by
  unfold lastZ getI; rw [List.getElem?_drop, List.getElem?_take_of_lt (by omega)]
def tellZ (f : List Int → Int) (zs : List Int) (long : Nat) : List Int := (List.range zs.length).map fun i => f (lastZ zs long i)
theorem tellZ_length (f : List Int → Int) (zs : List Int) (long : Nat) : (tellZ f zs long).length = zs.length := by unfold tellZ; rw [List.length_map, List.length_range]
theorem tellZ_get (f : List Int → Int) (zs : List Int) (long i : Nat) (hi : i < zs.length) : getI (tellZ f zs long) i = f (lastZ zs long i) := by
  unfold tellZ getI; rw [List.getElem?_map, List.getElem?_range hi]; rfl
def readB (zs : List Int) (long : Int) : Bool := decide (1 ≤ zs.length ∧ zs.length ≤ 128) && (manyB 1000000 zs && decide (1 ≤ long ∧ long ≤ 128))
def tellR (f : List Int → Int) (zs : List Int) (long : Int) : List Int × Bool := if readB zs long then (tellZ f zs long.toNat, true) else ([], false)
theorem tellR_yes {f : List Int → Int} {zs : List Int} {long : Int} (h : readB zs long = true) : tellR f zs long = (tellZ f zs long.toNat, true) := by unfold tellR; rw [h]; rfl
theorem tellR_no {f : List Int → Int} {zs : List Int} {long : Int} (h : readB zs long = false) : tellR f zs long = ([], false) := by unfold tellR; rw [h]; rfl
structure ReadOk (zs : List Int) (long : Int) : Prop where
  n1 : 1 ≤ zs.length
  n2 : zs.length ≤ 128
  m : manyB 1000000 zs = true
  l1 : 1 ≤ long
  l2 : long ≤ 128
theorem read_ok {zs : List Int} {long : Int} (h : readB zs long = true) : ReadOk zs long := by
  unfold readB at h
  simp only [Bool.and_eq_true, decide_eq_true_eq] at h
  exact ⟨h.1.1, h.1.2, h.2.1, h.2.2.1, h.2.2.2⟩
theorem tellR_le {f : List Int → Int} {zs : List Int} {long : Int} {rz : List Int} {rb : Bool} (h : tellR f zs long = (rz, rb)) : rz.length ≤ 1048576 := by
  cases hb : readB zs long
  · rw [tellR_no hb] at h; cases h; exact Nat.zero_le _
  · rw [tellR_yes hb] at h; cases h; rw [tellZ_length]; have := (read_ok hb).n2; omega
def leastI (l : List Int) : Int := l.foldl minI (getI l 0)
def mostI (l : List Int) : Int := l.foldl maxI (getI l 0)
/-- beginning with any number of the list -/
theorem fold_from {op : Int → Int → Int} (h : OpOk op) (l : List Int) (k : Nat) (hk : k < l.length) : l.foldl op (getI l k) = l.foldl op (getI l 0) :=
  fold_same h (by unfold getI; rw [List.getElem?_eq_getElem hk]; exact List.getElem_mem hk) (by unfold getI; rw [List.getElem?_eq_getElem (show 0 < l.length by omega)]; exact List.getElem_mem _)
/-- one more -/
theorem fold_take {op : Int → Int → Int} (l : List Int) (x : Int) (k : Nat) (hk : k < l.length) : (l.take (k + 1)).foldl op x = op ((l.take k).foldl op x) (getI l k) := by
  rw [List.take_succ_eq_append_getElem hk, List.foldl_append]; unfold getI; rw [List.getElem?_eq_getElem hk]; rfl
theorem reads_last {w : World} {b off n : Nat} {zs : List Int} (hz : zs.length = n) (hc : ∀ i, i < n → w.cell? ⟨b, off + i, none⟩ = some (.int .i64 (zs[i]?.getD 0))) (long i : Nat) (hi : i < n) :
    Reads w (some ⟨b, off + (i + 1 - long), none⟩) (i + 1 - (i + 1 - long)) (ints (lastZ zs long i)) := by
  refine ⟨by rw [ints_length, lastZ_length _ _ _ (by omega)], .inr ⟨b, _, rfl, fun j hj => ?_⟩⟩
  rw [ints_get _ _ (by rw [lastZ_length _ _ _ (by omega)]; exact hj)]
  have h1 := lastZ_get zs long i j hj
  unfold getI at h1
  rw [h1, Nat.add_assoc]
  exact hc _ (by omega)
end Go.Proofs.Ytplngjbllllanaa
