/- Structs of integers and a slice, as values: plain facts. -/
import Derived.Test.YtfbapbgiegploaaCel
namespace Go.Proofs.Ytfbapbgiegploaa
open Go Go.RowKit
set_option linter.unusedVariables false
theorem Box.two {w : World} {b : Nat} {t : TypeId} {x0 x1 : Value} (h : Box w b t #[x0, x1]) : w.cell? ⟨b, 0, none⟩ = some x0 ∧ w.cell? ⟨b, 1, none⟩ = some x1 := ⟨h.cell 0, h.cell 1⟩
theorem Ext.some {w w' : World} (h : Ext w w') {b o : Nat} {v : Value} (hc : w.cell? ⟨b, o, none⟩ = Option.some v) : w'.cell? ⟨b, o, none⟩ = Option.some v := by rw [h.cell b o (World.block_lt_of_cell? w ⟨b, o, none⟩ hc)]; exact hc
/-- tallies as values -/
structure TV where
  R : Int
  S : Int
  zs : List Int
def TV.no : TV := ⟨0, 0, []⟩
def RetKT (t : TypeId) (c : TV) (w : World) (e : Ending) (w' : World) : Prop := ∃ a k, e = .returned (.agg #[.int .i64 c.R, .int .i64 c.S, .slice a c.zs.length k]) ∧ Own t w' w.heap.size w'.heap.size a c.zs.length k (ints c.zs) ∧ Ext w w'
def RetKTB (t : TypeId) (c : TV) (b : Bool) (w : World) (e : Ending) (w' : World) : Prop := ∃ a k, e = .returned (.tuple #[.agg #[.int .i64 c.R, .int .i64 c.S, .slice a c.zs.length k], .bool b]) ∧ Own t w' w.heap.size w'.heap.size a c.zs.length k (ints c.zs) ∧ Ext w w'
/-- fingers and zeros as values -/
structure FV where
  S : Int
  zs : List Int
def FV.no : FV := ⟨0, []⟩
def RetKF (t : TypeId) (c : FV) (w : World) (e : Ending) (w' : World) : Prop := ∃ a k, e = .returned (.agg #[.int .i64 c.S, .slice a c.zs.length k]) ∧ Own t w' w.heap.size w'.heap.size a c.zs.length k (ints c.zs) ∧ Ext w w'
def RetKFB (t : TypeId) (c : FV) (b : Bool) (w : World) (e : Ending) (w' : World) : Prop := ∃ a k, e = .returned (.tuple #[.agg #[.int .i64 c.S, .slice a c.zs.length k], .bool b]) ∧ Own t w' w.heap.size w'.heap.size a c.zs.length k (ints c.zs) ∧ Ext w w'
/-- sieves as values -/
structure SV where
  R : Int
  S : Int
  zs : List Bool
def SV.no : SV := ⟨0, 0, []⟩
/-- the grid of a sieve or a tally -/
def gridB (R S n : Int) : Bool := inB 1 R 8 && (keyB S && inB 1 n 512)
/-- a valid grid -/
structure GridOk (r : Nat) (S : Int) (n : Nat) : Prop where
  r1 : 1 ≤ r
  r8 : r ≤ 8
  key : keyB S = true
  n1 : 1 ≤ n
  n512 : n ≤ 512
theorem grid_ok {R S n : Int} (h : gridB R S n = true) : ∃ r m : Nat, R = r ∧ n = m ∧ GridOk r S m := by
  unfold gridB at h
  simp only [Bool.and_eq_true, inB_is] at h
  exact ⟨R.toNat, n.toNat, by omega, by omega, by omega, by omega, h.2.1, by omega, by omega⟩
theorem GridOk.gridB {r : Nat} {S : Int} {n : Nat} (h : GridOk r S n) : gridB r S n = true := by
  have h1 := h.r1; have h2 := h.r8; have h3 := h.n1; have h4 := h.n512
  unfold Go.Proofs.Ytfbapbgiegploaa.gridB
  simp only [Bool.and_eq_true, inB_is]
  exact ⟨by omega, h.key, by omega⟩
theorem gridB_1 {R S n : Int} (h : inB 1 R 8 = false) : gridB R S n = false := by unfold gridB; rw [h]; rfl
theorem gridB_2 {R S n : Int} (h : keyB S = false) : gridB R S n = false := by unfold gridB; rw [h]; simp
theorem gridB_3 {R S n : Int} (h : inB 1 n 512 = false) : gridB R S n = false := by unfold gridB; rw [h]; simp
/-- numbers from 0 to m -/
def upB (m : Int) (zs : List Int) : Bool := zs.all fun z => inB 0 z m
theorem upB_at {m : Int} {zs : List Int} (h : upB m zs = true) {i : Nat} (hi : i < zs.length) : 0 ≤ zs[i]?.getD 0 ∧ zs[i]?.getD 0 ≤ m := by
  unfold upB at h
  rw [List.all_eq_true] at h
  have := h _ (List.getElem_mem hi)
  rw [List.getElem?_eq_getElem hi]
  exact inB_is.1 this
theorem upB_mk {m : Int} {zs : List Int} (h : ∀ i, i < zs.length → inB 0 (zs[i]?.getD 0) m = true) : upB m zs = true := by
  unfold upB
  rw [List.all_eq_true]
  intro x hx
  obtain ⟨i, hi, rfl⟩ := List.getElem_of_mem hx
  have := h i hi
  rw [List.getElem?_eq_getElem hi] at this
  exact this
theorem upB_no {m : Int} {zs : List Int} {i : Nat} (hi : i < zs.length) {x : Int} (hx : zs[i]?.getD 0 = x) (h : inB 0 x m = false) : upB m zs = false := by
  cases hb : upB m zs
  · rfl
  · have := upB_at hb hi
    rw [hx] at this
    rw [inB_is.2 this] at h
    cases h
def tallyB (R S : Int) (zs : List Int) : Bool := gridB R S zs.length && upB 1000000 zs
theorem tallyB_1 {R S : Int} {zs : List Int} (h : gridB R S zs.length = false) : tallyB R S zs = false := by unfold tallyB; rw [h]; rfl
theorem tallyB_2 {R S : Int} {zs : List Int} (h : gridB R S zs.length = true) : tallyB R S zs = upB 1000000 zs := by unfold tallyB; rw [h]; rfl
theorem tally_ok {R S : Int} {zs : List Int} (h : tallyB R S zs = true) : ∃ r : Nat, R = r ∧ GridOk r S zs.length ∧ upB 1000000 zs = true := by
  unfold tallyB at h
  simp only [Bool.and_eq_true] at h
  obtain ⟨r, m, h1, h2, h3⟩ := grid_ok h.1
  obtain rfl : zs.length = m := by omega
  exact ⟨r, h1, h3, h.2⟩
/-- one of m doubled numbers from lo on -/
def doubB (n lo m : Nat) : Bool := (List.range m).any fun k => n == lo * 2 ^ k
theorem doubB_yes {n lo m : Nat} (h : doubB n lo m = true) : ∃ k, k < m ∧ n = lo * 2 ^ k := by
  unfold doubB at h
  rw [List.any_eq_true] at h
  obtain ⟨k, hk, he⟩ := h
  exact ⟨k, List.mem_range.1 hk, by simpa using he⟩
theorem doubB_mk {n lo m : Nat} (k : Nat) (hk : k < m) (h : n = lo * 2 ^ k) : doubB n lo m = true := by
  unfold doubB
  rw [List.any_eq_true]
  exact ⟨k, List.mem_range.2 hk, by simpa using h⟩
theorem doubB_no {n lo m : Nat} (h : ∀ k, k < m → n ≠ lo * 2 ^ k) : doubB n lo m = false := by
  cases hb : doubB n lo m
  · rfl
  · obtain ⟨k, hk, e⟩ := doubB_yes hb
    exact absurd e (h k hk)
def cellsUp (S : Int) (zs : List Int) (lo m : Nat) (b : Int) : Bool := keyB S && (doubB zs.length lo m && upB b zs)
theorem cellsUp_1 {S : Int} {zs : List Int} {lo m : Nat} {b : Int} (h : keyB S = false) : cellsUp S zs lo m b = false := by unfold cellsUp; rw [h]; rfl
theorem cellsUp_2 {S : Int} {zs : List Int} {lo m : Nat} {b : Int} (h : doubB zs.length lo m = false) : cellsUp S zs lo m b = false := by unfold cellsUp; rw [h]; simp
theorem cellsUp_3 {S : Int} {zs : List Int} {lo m : Nat} {b : Int} (h : keyB S = true) (h2 : doubB zs.length lo m = true) : cellsUp S zs lo m b = upB b zs := by unfold cellsUp; rw [h, h2]; simp
theorem cellsUp_yes {S : Int} {zs : List Int} {lo m : Nat} {b : Int} (h : cellsUp S zs lo m b = true) : keyB S = true ∧ doubB zs.length lo m = true ∧ upB b zs = true := by
  unfold cellsUp at h
  simpa [Bool.and_eq_true] using h
/-- the salt behind -/
theorem saltZ_bd (S : Int) (i : Nat) : 0 ≤ saltZ S i ∧ saltZ S i < 4294967296 := by unfold saltZ; omega
/-- the places of a key in a grid -/
def gplace (S key : Int) (m k : Nat) : Nat := belowN key (saltZ S k) m
theorem gplace_lt (S key : Int) {m : Nat} (k : Nat) (h : 1 ≤ m) : gplace S key m k < m := belowN_lt key (saltZ S k) m h
def gplaces (S key : Int) (m r : Nat) : List Int := (List.range r).map fun k => ((gplace S key m k : Nat) : Int)
theorem gplaces_length (S key : Int) (m r : Nat) : (gplaces S key m r).length = r := by simp [gplaces]
theorem gplaces_get (S key : Int) (m r k : Nat) (h : k < r) : (gplaces S key m r)[k]?.getD 0 = ((gplace S key m k : Nat) : Int) := by simp [gplaces, h]
theorem gplaces_snoc (S key : Int) (m k : Nat) : ints (gplaces S key m (k + 1)) = ints (gplaces S key m k) ++ [.int .i64 ((gplace S key m k : Nat) : Int)] := by simp [gplaces, ints, List.range_succ]
/-- adding at places, of which some may be equal -/
def addAt (p : Nat → Nat) (y : Int) (zs : List Int) : Nat → List Int
  | 0 => zs
  | k + 1 => (addAt p y zs k).set (p k) ((addAt p y zs k)[p k]?.getD 0 + y)
theorem addAt_length (p : Nat → Nat) (y : Int) (zs : List Int) : ∀ k, (addAt p y zs k).length = zs.length
  | 0 => rfl
  | k + 1 => by
    show ((addAt p y zs k).set (p k) _).length = _
    rw [List.length_set, addAt_length p y zs k]
theorem addAt_bd {p : Nat → Nat} {y : Int} {zs : List Int} {m : Int} (hy : -1 ≤ y ∧ y ≤ 1) (h : ∀ i, i < zs.length → 0 ≤ zs[i]?.getD 0 ∧ zs[i]?.getD 0 ≤ m) : ∀ (k : Nat), ∀ i, i < zs.length → -(k : Int) ≤ (addAt p y zs k)[i]?.getD 0 ∧ (addAt p y zs k)[i]?.getD 0 ≤ m + k
  | 0, i, hi => by have := h i hi; show -((0 : Nat) : Int) ≤ zs[i]?.getD 0 ∧ zs[i]?.getD 0 ≤ m + ((0 : Nat) : Int); omega
  | k + 1, i, hi => by
    have ih := addAt_bd (p := p) hy h k
    show -((k + 1 : Nat) : Int) ≤ ((addAt p y zs k).set (p k) ((addAt p y zs k)[p k]?.getD 0 + y))[i]?.getD 0 ∧ ((addAt p y zs k).set (p k) ((addAt p y zs k)[p k]?.getD 0 + y))[i]?.getD 0 ≤ m + ((k + 1 : Nat) : Int)
    have hl := addAt_length p y zs k
    by_cases hp : p k < zs.length
    · rw [getD_set _ _ _ _ (by omega)]
      split
      · have := ih (p k) hp; omega
      · have := ih i hi; omega
    · rw [List.set_eq_of_length_le (by omega)]
      have := ih i hi; omega
/-- the least one at places -/
theorem minOf_le (f : Nat → Int) {m : Int} : ∀ k, (∀ i, i ≤ k → f i ≤ m) → minOf f k ≤ m
  | 0, h => h 0 (Nat.le_refl _)
  | k + 1, h => by
    have := minOf_le f k (fun i hi => h i (by omega))
    show min (minOf f k) (f (k + 1)) ≤ m
    omega
def minT (f : Nat → Int) : Nat → Int
  | 0 => 1000000
  | k + 1 => min (minT f k) (f k)
theorem minT_eq (f : Nat → Int) : ∀ k, (∀ i, i ≤ k → f i ≤ 1000000) → minT f (k + 1) = minOf f k
  | 0, h => by have := h 0 (Nat.le_refl _); show min 1000000 (f 0) = f 0; omega
  | k + 1, h => by
    show min (minT f (k + 1)) (f (k + 1)) = min (minOf f k) (f (k + 1))
    rw [minT_eq f k (fun i hi => h i (by omega))]
end Go.Proofs.Ytfbapbgiegploaa
