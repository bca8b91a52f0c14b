/- Samples of different keys: plain facts. -/
import Derived.Test.YtplngjbllllanaaDoorLsd
import Derived.Test.YtplngjbllllanaaDoorLow
import Derived.Test.YtplngjbllllanaaDoorKey
namespace Go.Proofs.YtplngjbllllanaaDoor
open Go.ChangeShapes Go.WideShapes Go.ChangeAt Go.RowKit
set_option linter.unusedVariables false
/-- whether a key's level is at least so great -/
def zerP (salt l : Int) (x : Int) : Bool := decide (l ≤ lowV ((hashN x salt : Nat) : Int))
theorem zerP_mono {salt l x : Int} (h : zerP salt (l + 1) x = true) : zerP salt l x = true := by
  unfold zerP at *; rw [decide_eq_true_eq] at *; omega
/-- the different keys of a list -/
def difZ (zs : List Int) : List Int := Lib.compact (sortZ zs)
theorem difZ_len (zs : List Int) : (difZ zs).length ≤ zs.length := by
  have := Lib.compact_length_le (sortZ zs); rw [sortZ_length] at this; exact this
theorem difZ_mem {zs : List Int} (x : Int) : x ∈ difZ zs ↔ x ∈ zs := by unfold difZ; rw [compact_mem, sortZ_mem]
theorem difZ_asc (zs : List Int) : (difZ zs).Pairwise (fun a b => a < b) := compact_asc (sortZ_asc zs)
/-- .. of at least a level -/
def disL (salt l : Int) (zs : List Int) : List Int := leastD 256 (zs.filter (zerP salt l))
theorem disL_eq {salt l : Int} {zs : List Int} (h : zs.length ≤ 256) : disL salt l zs = (difZ zs).filter (zerP salt l) := by
  refine LeastOk.uniq (leastD_ok 256 _) ⟨(difZ_asc zs).filter _, fun x hx => ?_, ?_, fun x hx => .inl ?_⟩
  · obtain ⟨h1, h2⟩ := List.mem_filter.1 hx
    exact List.mem_filter.2 ⟨(difZ_mem x).1 h1, h2⟩
  · have := List.length_filter_le (zerP salt l) (difZ zs); have := difZ_len zs; omega
  · obtain ⟨h1, h2⟩ := List.mem_filter.1 hx
    exact List.mem_filter.2 ⟨(difZ_mem x).2 h1, h2⟩
theorem filter_next {salt l : Int} (M : List Int) : (M.filter (zerP salt l)).filter (zerP salt (l + 1)) = M.filter (zerP salt (l + 1)) := by
  rw [List.filter_filter]
  refine List.filter_congr fun x hx => ?_
  cases h : zerP salt (l + 1) x
  · rfl
  · rw [zerP_mono h]; rfl
/-- what is told from a level on: k levels are left to be tried -/
def disK (room salt : Int) (zs : List Int) : Nat → Int × List Int × Bool
  | 0 => (0, [], false)
  | k + 1 => if ((disL salt (32 - (k : Int)) zs).length : Int) ≤ room then (32 - (k : Int), disL salt (32 - (k : Int)) zs, true) else disK room salt zs k
theorem disK_0 (room salt : Int) (zs : List Int) : disK room salt zs 0 = (0, [], false) := rfl
theorem disK_yes {room salt : Int} {zs : List Int} {L : Nat} (hL : L ≤ 32) (h : ((disL salt (L : Int) zs).length : Int) ≤ room) : disK room salt zs (33 - L) = ((L : Int), disL salt (L : Int) zs, true) := by
  obtain ⟨k, hk⟩ : ∃ k, 33 - L = k + 1 := ⟨32 - L, by omega⟩
  have e : (32 - (k : Int)) = (L : Int) := by omega
  rw [hk]
  unfold disK
  rw [e, if_pos h]
theorem disK_no {room salt : Int} {zs : List Int} {L : Nat} (hL : L ≤ 32) (h : ¬ ((disL salt (L : Int) zs).length : Int) ≤ room) : disK room salt zs (33 - L) = disK room salt zs (33 - (L + 1)) := by
  obtain ⟨k, hk⟩ : ∃ k, 33 - L = k + 1 := ⟨32 - L, by omega⟩
  have e : (32 - (k : Int)) = (L : Int) := by omega
  rw [hk, show 33 - (L + 1) = k by omega]
  conv => lhs; unfold disK
  rw [e, if_neg h]
theorem disK_le {room salt : Int} {zs : List Int} : ∀ k, (disK room salt zs k).2.1.length ≤ 256
  | 0 => Nat.zero_le _
  | k + 1 => by
    unfold disK
    split
    · exact leastD_le 256 _
    · exact disK_le k
/-- what such a function answers: a number, a slice of its own, and whether it did -/
def RetISB (t : TypeId) (x : Int) (xs : List Int) (b : Bool) (w : World) (e : Ending) (w' : World) : Prop :=
  ∃ a c, e = .returned (.tuple #[.int .i64 x, .slice a xs.length c, .bool b]) ∧ Own t w' w.heap.size w'.heap.size a xs.length c (ints xs) ∧ Ext w w'
theorem RetISB.nil (t : TypeId) (w w' : World) (x : Ext w w') : RetISB t 0 [] false w (.returned (.tuple #[.int .i64 0, .slice none 0 0, .bool false])) w' := ⟨none, 0, rfl, Own.nil _ _ _ _, x⟩
theorem hash_key (x salt : Int) : keyB ((hashN x salt : Nat) : Int) = true := by
  have := hashN_lt x salt
  unfold keyB; rw [decide_eq_true_eq]; omega
end Go.Proofs.YtplngjbllllanaaDoor
