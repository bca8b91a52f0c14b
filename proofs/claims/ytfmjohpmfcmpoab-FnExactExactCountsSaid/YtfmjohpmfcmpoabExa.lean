/- ExactCounts: different numbers of a list with how often they are there (plain). -/
import Derived.Test.YtfmjohpmfcmpoabLsd
namespace Go.Proofs.Ytfmjohpmfcmpoab
open Go Go.RowKit
set_option linter.unusedVariables false
def cntZ (zs : List Int) (x : Int) : Int := ((zs.count x : Nat) : Int)
theorem cntZ_le (zs : List Int) (x : Int) : 0 ≤ cntZ zs x ∧ cntZ zs x ≤ zs.length := by
  unfold cntZ; have := List.count_le_length (a := x) (l := zs); omega
theorem cntZ_same (zs : List Int) (y : Int) : cntZ (zs ++ [y]) y = cntZ zs y + 1 := by
  unfold cntZ; rw [List.count_append, List.count_singleton_self]; omega
theorem cntZ_other {zs : List Int} {x y : Int} (h : x ≠ y) : cntZ (zs ++ [y]) x = cntZ zs x := by
  unfold cntZ; rw [List.count_append, List.count_singleton]
  have : (y == x) = false := by simpa using fun e : y = x => h e.symm
  rw [this]; simp
theorem cntZ_new {zs : List Int} {y : Int} (h : y ∉ zs) : cntZ zs y = 0 := by unfold cntZ; rw [List.count_eq_zero_of_not_mem h]; rfl
def cntL (L zs : List Int) : List Int := L.map (cntZ zs)
theorem cntL_length (L zs : List Int) : (cntL L zs).length = L.length := List.length_map _
theorem cntL_get (L zs : List Int) (i : Nat) (h : i < L.length) : getI (cntL L zs) i = cntZ zs (getI L i) := by unfold getI cntL; rw [List.getElem?_map, List.getElem?_eq_getElem h]; rfl
theorem getI_inj {L : List Int} (hn : L.Nodup) {i j : Nat} (hi : i < L.length) (hj : j < L.length) (h : getI L i = getI L j) : i = j := by
  unfold getI at h
  rw [List.getElem?_eq_getElem hi, List.getElem?_eq_getElem hj] at h
  have hp := List.pairwise_iff_getElem.1 (List.nodup_iff_pairwise_ne.1 hn)
  simp only [Option.getD_some] at h
  rcases Nat.lt_trichotomy i j with h1 | h1 | h1
  · exact absurd h (hp i j hi hj h1)
  · exact h1
  · exact absurd h.symm (hp j i hj hi h1)
theorem cntL_more {L zs : List Int} {i : Nat} {y : Int} (hn : L.Nodup) (hi : i < L.length) (h : getI L i = y) : (cntL L zs).set i (cntZ zs y + 1) = cntL L (zs ++ [y]) := by
  apply List.ext_getElem?
  intro j
  unfold cntL
  rw [List.getElem?_set, List.getElem?_map, List.getElem?_map, List.length_map]
  by_cases e : i = j
  · subst e
    rw [if_pos rfl, if_pos hi]
    unfold getI at h
    rw [List.getElem?_eq_getElem hi] at h ⊢
    simp only [Option.map_some, Option.getD_some] at h ⊢
    rw [h, cntZ_same]
  · rw [if_neg e]
    by_cases hj : j < L.length
    · rw [List.getElem?_eq_getElem hj]
      simp only [Option.map_some]
      rw [cntZ_other (fun e2 => e (getI_inj hn hi hj (by rw [h]; unfold getI; rw [List.getElem?_eq_getElem hj]; exact e2.symm)))]
    · rw [List.getElem?_eq_none (by omega)]; rfl
theorem cntL_new {L zs : List Int} {y : Int} (hm : ∀ x, x ∈ L ↔ x ∈ zs) (h : y ∉ L) : cntL (L ++ [y]) (zs ++ [y]) = cntL L zs ++ [1] := by
  unfold cntL
  rw [List.map_append]
  congr 1
  · exact List.map_congr_left fun x hx => cntZ_other fun e => h (e ▸ hx)
  · show [cntZ (zs ++ [y]) y] = [1]
    rw [cntZ_same, cntZ_new (fun hy => h ((hm y).2 hy))]; rfl
/-- the first k of a list in order, each number once -/
structure RunAt (S L : List Int) (k : Nat) : Prop where
  s : L.Pairwise (fun a b => a < b)
  m : ∀ x, x ∈ L ↔ x ∈ S.take k
  n : L.length ≤ k
theorem RunAt.zero (S : List Int) : RunAt S [] 0 := ⟨List.Pairwise.nil, fun x => by simp, Nat.le_refl _⟩
theorem RunAt.nodup {S L : List Int} {k : Nat} (h : RunAt S L k) : L.Nodup := nodup_of_lt h.s
theorem take_snocE (zs : List Int) (k : Nat) (h : k < zs.length) : zs.take (k + 1) = zs.take k ++ [getI zs k] := by
  rw [List.take_succ_eq_append_getElem h]; unfold getI; rw [List.getElem?_eq_getElem h]; rfl
theorem asc_le {S : List Int} (hs : S.Pairwise (fun a b => a ≤ b)) {k : Nat} (hk : k < S.length) : ∀ x ∈ S.take k, x ≤ getI S k := by
  intro x hx
  obtain ⟨i, hi, rfl⟩ := List.getElem_of_mem hx
  rw [List.length_take] at hi
  rw [List.getElem_take]
  unfold getI
  rw [List.getElem?_eq_getElem hk]
  exact List.pairwise_iff_getElem.1 hs i k (by omega) hk (by omega)
theorem last_max {L : List Int} (h : L.Pairwise (fun a b => a < b)) {x : Int} (hx : x ∈ L) : x ≤ getI L (L.length - 1) := by
  obtain ⟨i, hi, rfl⟩ := List.getElem_of_mem hx
  unfold getI
  rw [List.getElem?_eq_getElem (show L.length - 1 < L.length by omega)]
  by_cases e : i = L.length - 1
  · subst e; exact Int.le_refl _
  · have := List.pairwise_iff_getElem.1 h i (L.length - 1) hi (by omega) (by omega)
    show L[i] ≤ L[L.length - 1]
    omega
theorem last_mem {L : List Int} (h : 0 < L.length) : getI L (L.length - 1) ∈ L := by
  unfold getI; rw [List.getElem?_eq_getElem (show L.length - 1 < L.length by omega)]; exact List.getElem_mem _
/-- the number that is there already is the last one -/
theorem RunAt.old {S L : List Int} {k : Nat} (h : RunAt S L k) (hk : k < S.length) (h0 : 0 < L.length) (he : getI L (L.length - 1) = getI S k) : RunAt S L (k + 1) := by
  refine ⟨h.s, fun x => ?_, Nat.le_succ_of_le h.n⟩
  rw [take_snocE S k hk, List.mem_append, ← h.m, List.mem_singleton]
  constructor
  · exact .inl
  · rintro (h1 | h1)
    · exact h1
    · rw [h1, ← he]; exact last_mem h0
theorem RunAt.fresh {S L : List Int} (hs : S.Pairwise (fun a b => a ≤ b)) {k : Nat} (h : RunAt S L k) (hk : k < S.length) (hne : ¬ (0 < L.length ∧ getI L (L.length - 1) = getI S k)) : getI S k ∉ L ∧ RunAt S (L ++ [getI S k]) (k + 1) := by
  have h1 : ∀ x ∈ L, x < getI S k := fun x hx => by
    have a1 := last_max h.s hx
    have hpos : 0 < L.length := List.length_pos_of_mem hx
    have a2 := asc_le hs hk _ ((h.m _).1 (last_mem hpos))
    have a3 : getI L (L.length - 1) ≠ getI S k := fun e => hne ⟨hpos, e⟩
    omega
  refine ⟨fun hx => Int.lt_irrefl _ (h1 _ hx), ⟨List.pairwise_append.2 ⟨h.s, List.pairwise_singleton _ _, fun a ha b hb => ?_⟩, fun x => ?_, by rw [List.length_append, List.length_singleton]; have := h.n; omega⟩⟩
  · rw [List.mem_singleton] at hb; rw [hb]; exact h1 a ha
  · rw [take_snocE S k hk, List.mem_append, List.mem_append, h.m]
theorem run_least {zs L : List Int} {room : Nat} (hr : zs.length ≤ room) (h : RunAt (sortZ zs) L zs.length) : L = leastD room zs := by
  have hl := h.n
  have ht : (sortZ zs).take zs.length = sortZ zs := List.take_of_length_le (by rw [sortZ_length]; exact Nat.le_refl _)
  have hk := take_ok (room := room) (zs := zs) h.s (fun x => by rw [h.m, ht, sortZ_mem])
  rw [List.take_of_length_le (by omega)] at hk
  exact hk.uniq (leastD_ok room zs)
theorem cnt_sort (zs : List Int) (x : Int) : cntZ (sortZ zs) x = cntZ zs x := by unfold cntZ sortZ; rw [(List.mergeSort_perm zs _).count_eq]
theorem cntL_sort (L zs : List Int) : cntL L (sortZ zs) = cntL L zs := by unfold cntL; exact List.map_congr_left fun x _ => cnt_sort zs x
theorem least_all {zs : List Int} {room : Nat} (hr : zs.length < room) {x : Int} (hx : x ∈ zs) : x ∈ leastD room zs := by
  rcases (leastD_ok room zs).o x hx with h | ⟨h, _⟩
  · exact h
  · have := leastD_len room zs; omega
end Go.Proofs.Ytfmjohpmfcmpoab
