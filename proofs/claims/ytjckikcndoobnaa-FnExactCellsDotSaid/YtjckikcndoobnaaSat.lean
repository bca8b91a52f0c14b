/- SignedAt: both sides. -/
import Derived.Test.YtjckikcndoobnaaSgn
import Derived.Test.YtjckikcndoobnaaMeb
import Derived.Deep.RegionHeld3
import Derived.Deep.RegionLaw
import Derived.Deep.AppendLies
namespace Go.Proofs.Ytjckikcndoobnaa
open Go.ChangeShapes Go.WideShapes Go.ChangeAt Go.RowKit
set_option linter.unusedVariables false
def sgAt (m d : Nat) (S : Int) (zs : List Int) (key : Int) : List Int := (List.range d).map fun i => zs[placeN m S key i]?.getD 0 * sgZ S key i
theorem sgAt_length (m d : Nat) (S key : Int) (zs : List Int) : (sgAt m d S zs key).length = d := by simp [sgAt]
theorem sgAt_get (m d : Nat) (S key : Int) (zs : List Int) (i : Nat) (h : i < d) : (sgAt m d S zs key)[i]?.getD 0 = zs[placeN m S key i]?.getD 0 * sgZ S key i := by simp [sgAt, h]
theorem sgAt_snoc (m k : Nat) (S key : Int) (zs : List Int) : ints (sgAt m (k + 1) S zs key) = ints (sgAt m k S zs key) ++ [.int .i64 (zs[placeN m S key k]?.getD 0 * sgZ S key k)] := by simp [sgAt, ints, List.range_succ]
def satR (W D S : Int) (zs : List Int) (key : Int) : Int × Bool := if cellsB W D S zs && keyB key then (medZ (sgAt W.toNat D.toNat S zs key), true) else (0, false)
theorem satR_y {m d : Nat} {S key : Int} {zs : List Int} (h : CellsOk m d S zs) (hk : keyB key = true) : satR m d S zs key = (medZ (sgAt m d S zs key), true) := by
  unfold satR
  rw [h.cellsB, hk]
  simp
theorem satR_no {W D S key : Int} {zs : List Int} (h : (cellsB W D S zs && keyB key) = false) : satR W D S zs key = (0, false) := by unfold satR; rw [h]; rfl
theorem ownsOn {w w' : World} {base : Nat} {e : TypeId} {size : Nat} {v : Value} {n : Nat} {xs : List Value} (h : w.ownsRow base e size v n xs) (x : Ext w w') : w'.ownsRow base e size v n xs := by
  refine ⟨h.1, ?_⟩
  rcases h.2 with h0 | ⟨g, cap, cur, rfl, hb, hg, rest⟩
  · exact .inl h0
  · exact .inr ⟨g, cap, cur, rfl, hb, (Below.block x g (Array.getElem?_eq_some_iff.1 hg).1).trans hg, rest⟩
theorem cellOn {w w' : World} {b o : Nat} {v : Value} (h : w.cell? ⟨b, o, none⟩ = some v) (e : Ext w w') : w'.cell? ⟨b, o, none⟩ = some v := by
  rw [e.cell b o (World.block_lt_of_cell? w ⟨b, o, none⟩ h)]; exact h
theorem boxOther {w : World} {b : Nat} {t : TypeId} {vs : Array Value} (h : Box w b t vs) {a : Addr} (ha : b ≠ a.block) (v : Value) : Box (w.setCell a v) b t vs := (Below.heap_setCell _ _ _ _ (fun e => ha e)).trans h
theorem wrap_sgc {y s : Int} (hs : s = 1 ∨ s = -1) (h0 : -1000000000000 ≤ y) (h1 : y ≤ 1000000000000) : IntKind.i64.wrap (y * s) = y * s ∧ -1000000000000 ≤ y * s ∧ y * s ≤ 1000000000000 := by
  rcases hs with rfl | rfl
  · rw [Int.mul_one]; exact ⟨wrap_mid (by omega) (by omega), h0, h1⟩
  · have e : y * -1 = -y := by omega
    rw [e]; exact ⟨wrap_mid (by omega) (by omega), by omega, by omega⟩
theorem CellsOk.at2 {m d : Nat} {S : Int} {zs : List Int} (h : CellsOk m d S zs) (key : Int) {k : Nat} (hk : k < d) : -1000000000000 ≤ zs[placeN m S key k]?.getD 0 ∧ zs[placeN m S key k]?.getD 0 ≤ 1000000000000 :=
  manyB_at h.many (by rw [h.len]; exact placeN_lt S key (by have := h.m2; omega) hk)
theorem upd_id_get (f : Nat → Int → Int) (zs : List Int) : ∀ (k i : Nat), (upd (fun i => i) f zs k)[i]?.getD 0 = if i < k ∧ i < zs.length then f i (zs[i]?.getD 0) else zs[i]?.getD 0
  | 0, i => by simp [upd]
  | k + 1, i => by
    show ((upd (fun i => i) f zs k).set k (f k (zs[k]?.getD 0)))[i]?.getD 0 = _
    by_cases hk : k < zs.length
    · rw [getD_set _ k i _ (by rw [upd_length]; exact hk), upd_id_get f zs k i]
      by_cases e : i = k
      · subst e; simp [hk]
      · have e2 : (i < k + 1) = (i < k) := by apply propext; omega
        simp [e, e2]
    · rw [List.set_eq_of_length_le (by rw [upd_length]; omega), upd_id_get f zs k i]
      by_cases e : i < zs.length
      · have e2 : i < k + 1 := by omega
        have e3 : i < k := by omega
        simp [e, e2, e3]
      · simp [e]
theorem sgAt_upd (m d : Nat) (S key : Int) (zs : List Int) : upd (fun i => i) (fun i c => c * sgZ S key i) (atZ m d S zs key) d = sgAt m d S zs key := by
  apply List.ext_getElem?
  intro i
  by_cases h : i < d
  · have h1 := upd_id_get (fun i c => c * sgZ S key i) (atZ m d S zs key) d i
    rw [if_pos ⟨h, by rw [atZ_length]; exact h⟩, atZ_get m d S key zs i h] at h1
    have h2 := sgAt_get m d S key zs i h
    have l1 : i < (upd (fun i => i) (fun i c => c * sgZ S key i) (atZ m d S zs key) d).length := by rw [upd_length, atZ_length]; exact h
    have l2 : i < (sgAt m d S zs key).length := by rw [sgAt_length]; exact h
    rw [List.getElem?_eq_getElem l1] at h1 ⊢
    rw [List.getElem?_eq_getElem l2] at h2 ⊢
    simp only [Option.getD_some] at h1 h2
    rw [h1, h2]
  · rw [List.getElem?_eq_none (by rw [upd_length, atZ_length]; omega), List.getElem?_eq_none (by rw [sgAt_length]; omega)]
end Go.Proofs.Ytjckikcndoobnaa
