/- The least different numbers of a list (plain): what makes them one list; sorted, compacted and cut off, they are those. -/
import Derived.Test.YtfbapbgiegploaaAll
import Derived.Lib.SlicesCompact
import Derived.Lib.RowBridge
namespace Go.Proofs.Ytfbapbgiegploaa
open Go Go.RowKit
set_option linter.unusedVariables false
structure LeastOk (room : Nat) (zs L : List Int) : Prop where
  s : L.Pairwise (fun a b => a < b)
  i : ∀ x ∈ L, x ∈ zs
  n : L.length ≤ room
  o : ∀ x ∈ zs, x ∈ L ∨ (L.length = room ∧ ∀ y ∈ L, y < x)
theorem nodup_of_lt {L : List Int} (h : L.Pairwise (fun a b => a < b)) : L.Nodup := List.nodup_iff_pairwise_ne.2 (h.imp fun hab e => by omega)
theorem LeastOk.sub {room : Nat} {zs L M : List Int} (h : LeastOk room zs L) (k : LeastOk room zs M) : ∀ x ∈ L, x ∈ M := by
  intro x hx
  rcases k.o x (h.i x hx) with h1 | ⟨h1, h2⟩
  · exact h1
  · by_cases hm : x ∈ M
    · exact hm
    exfalso
    have hsub : (x :: M) ⊆ L := by
      intro y hy
      rcases List.mem_cons.1 hy with rfl | hy
      · exact hx
      · rcases h.o y (k.i y hy) with h3 | ⟨h3, h4⟩
        · exact h3
        · have := h2 y hy; have := h4 x hx; omega
    have hnd : (x :: M).Nodup := List.nodup_cons.2 ⟨hm, nodup_of_lt k.s⟩
    have := List.Nodup.length_le_of_subset hnd hsub
    have := h.n
    simp only [List.length_cons] at *
    omega
theorem LeastOk.uniq {room : Nat} {zs L M : List Int} (h : LeastOk room zs L) (k : LeastOk room zs M) : L = M :=
  List.Perm.eq_of_pairwise (le := fun a b => a < b) (fun a b _ _ h1 h2 => by omega) h.s k.s ((List.perm_ext_iff_of_nodup (nodup_of_lt h.s) (nodup_of_lt k.s)).2 fun a => ⟨h.sub k a, k.sub h a⟩)
def sortZ (zs : List Int) : List Int := zs.mergeSort fun x y => decide (x ≤ y)
theorem sortZ_length (zs : List Int) : (sortZ zs).length = zs.length := List.length_mergeSort zs
theorem sortZ_mem (zs : List Int) (x : Int) : x ∈ sortZ zs ↔ x ∈ zs := (List.mergeSort_perm zs _).mem_iff
theorem sortZ_asc (zs : List Int) : (sortZ zs).Pairwise (fun a b => a ≤ b) :=
  (List.pairwise_mergeSort (le := fun x y => decide (x ≤ y)) (fun a b c h1 h2 => by simp only [decide_eq_true_eq] at *; omega) (fun a b => by simp only [Bool.or_eq_true, decide_eq_true_eq]; omega) zs).imp fun h => by simpa using h
theorem getB (zs : List Int) (i : Nat) (h : i < zs.length) : zs.toArray[i]! = zs[i] := by simp [h]
theorem compact_asc {zs : List Int} (h : zs.Pairwise (fun a b => a ≤ b)) : (Lib.compact zs).Pairwise (fun a b => a < b) := by
  unfold Lib.compact Lib.compactUpTo
  rw [List.pairwise_map]
  have h1 : ((List.range zs.length).filter (Lib.keeps zs.toArray)).Pairwise (fun a b => a < b) := List.pairwise_lt_range.filter _
  refine (List.Pairwise.and_mem.1 h1).imp ?_
  rintro a b ⟨ha, hb, hab⟩
  obtain ⟨ha1, ha2⟩ := List.mem_filter.1 ha
  obtain ⟨hb1, hb2⟩ := List.mem_filter.1 hb
  rw [List.mem_range] at ha1 hb1
  unfold Lib.keeps at hb2
  simp only [decide_eq_true_eq] at hb2
  rcases hb2 with hb2 | hb2
  · omega
  rw [getB zs b hb1, getB zs (b - 1) (by omega)] at hb2
  rw [getB zs a ha1, getB zs b hb1]
  have h2 := List.pairwise_iff_getElem.1 h
  have h3 := h2 (b - 1) b (by omega) hb1 (by omega)
  by_cases e : a = b - 1
  · subst e; omega
  · have := h2 a (b - 1) ha1 (by omega) (by omega); omega
theorem compact_mem {zs : List Int} (x : Int) : x ∈ Lib.compact zs ↔ x ∈ zs := by
  unfold Lib.compact Lib.compactUpTo
  rw [List.mem_map]
  constructor
  · rintro ⟨j, hj, rfl⟩
    have hj1 := List.mem_range.1 (List.mem_filter.1 hj).1
    rw [getB zs j hj1]; exact List.getElem_mem hj1
  · intro hx
    obtain ⟨i, hi, hix⟩ := List.getElem_of_mem hx
    have : ∀ i, (hi : i < zs.length) → zs[i] = x → ∃ j, j < zs.length ∧ Lib.keeps zs.toArray j = true ∧ zs.toArray[j]! = x := by
      intro i
      induction i with
      | zero => intro hi h; exact ⟨0, hi, by unfold Lib.keeps; simp, by rw [getB zs 0 hi]; exact h⟩
      | succ i ih =>
        intro hi h
        by_cases e : zs[i] = x
        · exact ih (by omega) e
        · exact ⟨i + 1, hi, by unfold Lib.keeps; rw [getB zs _ hi, show i + 1 - 1 = i from rfl, getB zs i (by omega), h]; simp; exact fun h' => e h'.symm, by rw [getB zs _ hi]; exact h⟩
    obtain ⟨j, h1, h2, h3⟩ := this i hi hix
    exact ⟨j, List.mem_filter.2 ⟨List.mem_range.2 h1, h2⟩, h3⟩
def leastD (room : Nat) (zs : List Int) : List Int := (Lib.compact (sortZ zs)).take room
theorem take_ok {room : Nat} {zs C : List Int} (hs : C.Pairwise (fun a b => a < b)) (hm : ∀ x, x ∈ C ↔ x ∈ zs) : LeastOk room zs (C.take room) := by
  refine ⟨hs.take, fun x hx => (hm x).1 (List.mem_of_mem_take hx), by rw [List.length_take]; omega, fun x hx => ?_⟩
  have hx' := (hm x).2 hx
  rw [← List.take_append_drop room C] at hx'
  rcases List.mem_append.1 hx' with h | h
  · exact .inl h
  · right
    refine ⟨?_, fun y hy => ?_⟩
    · have : 0 < (C.drop room).length := List.length_pos_of_mem h
      rw [List.length_drop] at this; rw [List.length_take]; omega
    · rw [← List.take_append_drop room C] at hs
      exact (List.pairwise_append.1 hs).2.2 y hy x h
theorem leastD_ok (room : Nat) (zs : List Int) : LeastOk room zs (leastD room zs) :=
  take_ok (compact_asc (sortZ_asc zs)) fun x => by rw [compact_mem, sortZ_mem]
theorem leastD_le (room : Nat) (zs : List Int) : (leastD room zs).length ≤ room := (leastD_ok room zs).n
theorem leastD_len (room : Nat) (zs : List Int) : (leastD room zs).length ≤ zs.length := by
  unfold leastD; rw [List.length_take]
  have := Lib.compact_length_le (sortZ zs); rw [sortZ_length] at this; omega
theorem leastD_nil (room : Nat) : leastD room [] = [] := by
  have := leastD_len room []; exact List.eq_nil_of_length_eq_zero (by simpa using this)
/-- a number that is there already -/
theorem LeastOk.old {room : Nat} {zs L : List Int} {x : Int} (h : LeastOk room zs L) (hx : x ∈ L) : LeastOk room (zs ++ [x]) L :=
  ⟨h.s, fun y hy => List.mem_append.2 (.inl (h.i y hy)), h.n, fun y hy => by
    rcases List.mem_append.1 hy with h1 | h1
    · exact h.o y h1
    · rw [List.mem_singleton] at h1; subst h1; exact .inl hx⟩
/-- a number that is put in -/
theorem LeastOk.new {room : Nat} {zs L : List Int} {x : Int} {p : Nat} (h : LeastOk room zs L) (hp : p ≤ L.length) (lo : ∀ y ∈ L.take p, y < x) (hi : ∀ y ∈ L.drop p, x < y) :
    LeastOk room (zs ++ [x]) ((L.take p ++ x :: L.drop p).take room) := by
  have hL : L = L.take p ++ L.drop p := (List.take_append_drop p L).symm
  have hs : (L.take p ++ x :: L.drop p).Pairwise (fun a b => a < b) := by
    have h0 := h.s
    rw [hL] at h0
    obtain ⟨h1, h2, h3⟩ := List.pairwise_append.1 h0
    refine List.pairwise_append.2 ⟨h1, List.pairwise_cons.2 ⟨hi, h2⟩, fun a ha b hb => ?_⟩
    rcases List.mem_cons.1 hb with rfl | hb
    · exact lo a ha
    · exact h3 a ha b hb
  have hk := take_ok (room := room) (zs := L ++ [x]) hs fun y => by
    rw [List.mem_append, List.mem_cons, List.mem_append, List.mem_singleton]
    conv => rhs; rw [hL]
    rw [List.mem_append]
    constructor
    · rintro (h1 | h1 | h1)
      · exact .inl (.inl h1)
      · exact .inr h1
      · exact .inl (.inr h1)
    · rintro ((h1 | h1) | h1)
      · exact .inl h1
      · exact .inr (.inr h1)
      · exact .inr (.inl h1)
  refine ⟨hk.s, fun y hy => ?_, hk.n, fun y hy => ?_⟩
  · rcases List.mem_append.1 (hk.i y hy) with h1 | h1
    · exact List.mem_append.2 (.inl (h.i y h1))
    · exact List.mem_append.2 (.inr h1)
  · have good : y ∈ L ++ [x] → _ := hk.o y
    rcases List.mem_append.1 hy with h1 | h1
    · rcases h.o y h1 with h2 | ⟨h2, h3⟩
      · exact good (List.mem_append.2 (.inl h2))
      · -- y lies above all of a full list
        right
        have hlen : ((L.take p ++ x :: L.drop p).take room).length = room := by
          rw [List.length_take, List.length_append, List.length_cons, List.length_take, List.length_drop]; omega
        refine ⟨hlen, fun z hz => ?_⟩
        rcases List.mem_append.1 (hk.i z hz) with h4 | h4
        · exact h3 z h4
        · rw [List.mem_singleton] at h4; subst h4
          by_cases hr : L.drop p = []
          · exfalso
            have hpl : L.length ≤ p := by simpa using hr
            have ht : L.take p = L := List.take_of_length_le (by omega)
            rw [hr, ht] at hz
            rw [show (L ++ [z]).take room = L by rw [← h2, List.take_left]] at hz
            rw [ht] at lo
            have := lo z hz; omega
          · obtain ⟨u, hu⟩ := List.exists_mem_of_ne_nil _ hr
            have := hi u hu; have := h3 u (List.mem_of_mem_drop hu); omega
    · exact good (List.mem_append.2 (.inr h1))
theorem leastD_old {room : Nat} {zs : List Int} {x : Int} (hx : x ∈ leastD room zs) : leastD room (zs ++ [x]) = leastD room zs := (leastD_ok room _).uniq ((leastD_ok room zs).old hx)
theorem leastD_new {room : Nat} {zs : List Int} {x : Int} {p : Nat} (hp : p ≤ (leastD room zs).length) (lo : ∀ y ∈ (leastD room zs).take p, y < x) (hi : ∀ y ∈ (leastD room zs).drop p, x < y) :
    leastD room (zs ++ [x]) = ((leastD room zs).take p ++ x :: (leastD room zs).drop p).take room := (leastD_ok room _).uniq ((leastD_ok room zs).new hp lo hi)
end Go.Proofs.Ytfbapbgiegploaa
