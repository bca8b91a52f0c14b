/- A stable sort by blocks: tagged rows, blocks, and why the end is the library's sorted list; plain facts, no program. -/
import Derived.Test.YtfbapbgiegploaaSmg
namespace Go.Proofs.Ytfbapbgiegploaa.Smg
set_option linter.unusedVariables false
section
variable {α : Type} (le : α → α → Bool)
/-- numbers with the places where they stood: strictly before -/
def TL (x y : α × Nat) : Prop := le x.1 y.1 = true ∧ (le y.1 x.1 = false ∨ x.2 < y.2)
variable {le}
theorem TL.trans (tr : ∀ x y z, le x y = true → le y z = true → le x z = true) : ∀ x y z : α × Nat, TL le x y → TL le y z → TL le x z := by
  rintro x y z ⟨h1, h2⟩ ⟨h3, h4⟩
  refine ⟨tr _ _ _ h1 h3, ?_⟩
  cases hc : le z.1 x.1
  · exact .inl rfl
  · right
    have e1 : le y.1 x.1 = true := tr _ _ _ h3 hc
    have e2 : le z.1 y.1 = true := tr _ _ _ hc h1
    rcases h2 with h2 | h2
    · rw [e1] at h2; cases h2
    rcases h4 with h4 | h4
    · rw [e2] at h4; cases h4
    omega
theorem TL.of_lt (tot : ∀ x y, le x y = true ∨ le y x = true) {x y : α × Nat} (h : le y.1 x.1 = false) : TL le x y := by
  refine ⟨?_, .inl h⟩
  rcases tot x.1 y.1 with h' | h'
  · exact h'
  · rw [h] at h'; cases h'
theorem TL.of_tag {x y : α × Nat} (h : le x.1 y.1 = true) (ht : x.2 < y.2) : TL le x y := ⟨h, .inr ht⟩
/-- blocks of bs are sorted, each of what was in it -/
structure Blk (le : α → α → Bool) (bs n : Nat) (f g : Nat → α × Nat) : Prop where
  shuf : Shuf 0 n f g
  tag : ∀ k, k < n → (g k).2 / bs = k / bs
  srt : ∀ i j, i < j → j < n → i / bs = j / bs → TL le (g i) (g j)
theorem blk_is {B q k : Nat} (h1 : q * B ≤ k) (h2 : k < q * B + B) : k / B = q :=
  Nat.div_eq_of_lt_le h1 (by rw [Nat.add_mul, Nat.one_mul]; exact h2)
theorem blk_in {B q k : Nat} (hB : 0 < B) (h : k / B = q) : q * B ≤ k ∧ k < q * B + B := by
  subst h
  have h1 := Nat.div_add_mod k B
  have h2 := Nat.mod_lt k hB
  rw [Nat.mul_comm] at h1
  omega
/-- in the first pass: blocks ahead of a are sorted, the rest is as it was -/
structure Ins (le : α → α → Bool) (bs a n : Nat) (f g : Nat → α × Nat) : Prop where
  shuf : Shuf 0 n f g
  tag : ∀ k, k < n → (g k).2 / bs = k / bs
  srt : ∀ i j, i < j → j < a → i / bs = j / bs → TL le (g i) (g j)
  rest : ∀ k, a ≤ k → g k = f k
theorem Ins.start {bs n : Nat} {f : Nat → α × Nat} (h : ∀ k, k < n → (f k).2 = k) : Ins le bs 0 n f f :=
  ⟨.refl f, fun k hk => by rw [h k hk], fun i j _ hj => by omega, fun _ _ => rfl⟩
theorem Ins.tags {bs a b q n : Nat} {f g g' : Nat → α × Nat} (h : Ins le bs a n f g) (ha : a = q * bs) (hb : b ≤ a + bs) (hn : b ≤ n) (hB : 0 < bs) (hs : Shuf a b g g') : ∀ k, k < n → (g' k).2 / bs = k / bs := by
  intro k hk
  by_cases hi : a ≤ k ∧ k < b
  · rw [blk_is (q := q) (B := bs) (k := k) (by omega) (by omega)]
    exact hs.all (fun x => x.2 / bs = q) (fun j h1 h2 => by rw [h.tag j (by omega)]; exact blk_is (by omega) (by omega)) k hi.1 hi.2
  · rw [hs.out k (by omega)]; exact h.tag k hk
theorem Ins.step {bs a b q n : Nat} {f g g' : Nat → α × Nat} (h : Ins le bs a n f g) (ha : a = q * bs) (hab : a ≤ b) (hb : b ≤ a + bs) (hn : b ≤ n) (hB : 0 < bs) (hs : Shuf a b g g') (hS : SortedOn (TL le) g' a b) : Ins le bs b n f g' := by
  refine ⟨h.shuf.trans (hs.mono (Nat.zero_le _) hn), h.tags ha hb hn hB hs, ?_, fun k hk => ?_⟩
  · intro i j hij hj he
    by_cases h1 : a ≤ i
    · exact hS i j h1 hij hj
    · have hja : j < a := by
        by_cases h2 : j < a
        · exact h2
        · exfalso
          have e2 : j / bs = q := blk_is (by omega) (by omega)
          rw [e2] at he
          have := (blk_in hB he).1
          omega
      rw [hs.out i (by omega), hs.out j (by omega)]
      exact h.srt i j hij hja he
  · rw [hs.out k (by omega)]; exact h.rest k (by omega)
theorem Ins.done {bs n : Nat} {f g : Nat → α × Nat} (h : Ins le bs n n f g) : Blk le bs n f g := ⟨h.shuf, h.tag, h.srt⟩
/-- in a pass of merges: ahead of a blocks of 2 bs are sorted, behind it blocks of bs -/
structure Mid (le : α → α → Bool) (bs a n : Nat) (f g : Nat → α × Nat) : Prop where
  shuf : Shuf 0 n f g
  tagl : ∀ k, k < a → k < n → (g k).2 / (2 * bs) = k / (2 * bs)
  tagr : ∀ k, a ≤ k → k < n → (g k).2 / bs = k / bs
  srtl : ∀ i j, i < j → j < a → j < n → i / (2 * bs) = j / (2 * bs) → TL le (g i) (g j)
  srtr : ∀ i j, a ≤ i → i < j → j < n → i / bs = j / bs → TL le (g i) (g j)
theorem Mid.start {bs n : Nat} {f g : Nat → α × Nat} (h : Blk le bs n f g) : Mid le bs 0 n f g :=
  ⟨h.shuf, fun k hk => by omega, fun k _ hk => h.tag k hk, fun i j _ hj => by omega, fun i j _ hij hj he => h.srt i j hij hj he⟩
theorem Mid.pre {bs a b q n : Nat} {f g : Nat → α × Nat} (h : Mid le bs a n f g) (ha : a = q * (2 * bs)) (hb : b ≤ a + 2 * bs) (hn : b ≤ n) (hB : 0 < bs) (hm : a + bs ≤ b) :
    SortedOn (TL le) g a (a + bs) ∧ SortedOn (TL le) g (a + bs) b ∧ ∀ i j, a ≤ i → i < a + bs → a + bs ≤ j → j < b → (g i).2 < (g j).2 := by
  have e1 : a = (2 * q) * bs := by rw [ha]; rw [Nat.mul_left_comm, ← Nat.mul_assoc]
  have e2 : a + bs = (2 * q + 1) * bs := by rw [Nat.add_mul, Nat.one_mul, ← e1]
  have b1 : ∀ k, a ≤ k → k < a + bs → k / bs = 2 * q := fun k h1 h2 => blk_is (by omega) (by omega)
  have b2 : ∀ k, a + bs ≤ k → k < b → k / bs = 2 * q + 1 := fun k h1 h2 => blk_is (by omega) (by omega)
  refine ⟨fun i j hi hij hj => h.srtr i j hi hij (by omega) (by rw [b1 i hi (by omega), b1 j (by omega) hj]), fun i j hi hij hj => h.srtr i j (by omega) hij (by omega) (by rw [b2 i hi (by omega), b2 j (by omega) hj]), fun i j h1 h2 h3 h4 => ?_⟩
  have t1 := h.tagr i h1 (by omega)
  have t2 := h.tagr j (by omega) (by omega)
  rw [b1 i h1 h2] at t1
  rw [b2 j h3 h4] at t2
  have := (blk_in hB t1).2
  have := (blk_in hB t2).1
  omega
theorem Mid.step {bs a b q n : Nat} {f g g' : Nat → α × Nat} (h : Mid le bs a n f g) (ha : a = q * (2 * bs)) (hb : b ≤ a + 2 * bs) (hn : b ≤ n) (hB : 0 < bs) (hm : a + bs ≤ b) (hs : Shuf a b g g') (hS : SortedOn (TL le) g' a b) : Mid le bs b n f g' := by
  have e1 : a = (2 * q) * bs := by rw [ha]; rw [Nat.mul_left_comm, ← Nat.mul_assoc]
  have e2 : a + bs = (2 * q + 1) * bs := by rw [Nat.add_mul, Nat.one_mul, ← e1]
  have hB2 : 0 < 2 * bs := by omega
  refine ⟨h.shuf.trans (hs.mono (Nat.zero_le _) hn), ?_, ?_, ?_, ?_⟩
  · intro k hk hkn
    by_cases hi : a ≤ k
    · rw [blk_is (q := q) (B := 2 * bs) (k := k) (by omega) (by omega)]
      refine hs.all (fun x => x.2 / (2 * bs) = q) (fun j h1 h2 => ?_) k hi hk
      have t := h.tagr j h1 (by omega)
      by_cases hj : j < a + bs
      · rw [blk_is (q := 2 * q) (B := bs) (k := j) (by omega) (by omega)] at t
        have := blk_in hB t
        exact blk_is (by omega) (by omega)
      · rw [blk_is (q := 2 * q + 1) (B := bs) (k := j) (by omega) (by omega)] at t
        have := blk_in hB t
        exact blk_is (by omega) (by omega)
    · rw [hs.out k (by omega)]; exact h.tagl k (by omega) hkn
  · intro k hk hkn
    rw [hs.out k (by omega)]; exact h.tagr k (by omega) hkn
  · intro i j hij hj hjn he
    by_cases h1 : a ≤ i
    · exact hS i j h1 hij hj
    · have hja : j < a := by
        by_cases h2 : j < a
        · exact h2
        · exfalso
          have e3 : j / (2 * bs) = q := blk_is (by omega) (by omega)
          rw [e3] at he
          have := (blk_in hB2 he).1
          omega
      rw [hs.out i (by omega), hs.out j (by omega)]
      exact h.srtl i j hij hja (by omega) he
  · intro i j hi hij hjn he
    rw [hs.out i (by omega), hs.out j (by omega)]
    exact h.srtr i j (by omega) hij hjn he
/-- a part that is left alone: it is one block already -/
theorem Mid.rest {bs a q n : Nat} {f g : Nat → α × Nat} (h : Mid le bs a n f g) (ha : a = q * (2 * bs)) (hB : 0 < bs) (hm : n ≤ a + bs) : Blk le (2 * bs) n f g := by
  have e1 : a = (2 * q) * bs := by rw [ha]; rw [Nat.mul_left_comm, ← Nat.mul_assoc]
  have hB2 : 0 < 2 * bs := by omega
  refine ⟨h.shuf, ?_, ?_⟩
  · intro k hk
    by_cases hi : a ≤ k
    · have t := h.tagr k hi hk
      rw [blk_is (q := 2 * q) (B := bs) (k := k) (by omega) (by omega)] at t
      have := blk_in hB t
      rw [blk_is (q := q) (B := 2 * bs) (k := k) (by omega) (by omega)]
      exact blk_is (by omega) (by omega)
    · exact h.tagl k (by omega) hk
  · intro i j hij hj he
    by_cases h1 : a ≤ i
    · exact h.srtr i j h1 hij hj (by rw [blk_is (q := 2 * q) (B := bs) (k := i) (by omega) (by omega), blk_is (q := 2 * q) (B := bs) (k := j) (by omega) (by omega)])
    · have hja : j < a := by
        by_cases h2 : j < a
        · exact h2
        · exfalso
          have e3 : j / (2 * bs) = q := blk_is (by omega) (by omega)
          rw [e3] at he
          have := (blk_in hB2 he).1
          omega
      exact h.srtl i j hij hja hj he
theorem Mid.done {bs n a : Nat} {f g : Nat → α × Nat} (h : Mid le bs a n f g) (ha : n ≤ a) : Blk le (2 * bs) n f g := ⟨h.shuf, fun k hk => h.tagl k (by omega) hk, fun i j hij hj he => h.srtl i j hij (by omega) hj he⟩
theorem Blk.all {bs n : Nat} {f g : Nat → α × Nat} (h : Blk le bs n f g) (hn : n ≤ bs) : SortedOn (TL le) g 0 n := fun i j _ hij hj => h.srt i j hij hj (by rw [Nat.div_eq_of_lt (by omega), Nat.div_eq_of_lt (by omega)])

/-- rows as lists -/
def rowL {T : Type} (f : Nat → T) (n : Nat) : List T := (List.range n).map f
theorem rowL_length {T : Type} (f : Nat → T) (n : Nat) : (rowL f n).length = n := by simp [rowL]
theorem rowL_get {T : Type} (f : Nat → T) (n i : Nat) (h : i < n) : (rowL f n)[i]? = some (f i) := by simp [rowL, h]
theorem swap_perm {T : Type} (f : Nat → T) (n i j : Nat) (hi : i < n) (hj : j < n) : (rowL (swapF f i j) n).Perm (rowL f n) := by
  have h := Array.swap_perm (xs := (rowL f n).toArray) (i := i) (j := j) (by simpa [rowL_length] using hi) (by simpa [rowL_length] using hj)
  have e : ((rowL f n).toArray.swap i j (by simpa [rowL_length] using hi) (by simpa [rowL_length] using hj)) = (rowL (swapF f i j) n).toArray := by
    apply Array.ext
    · simp [rowL_length]
    · intro k h1 h2
      have hk : k < n := by simpa [rowL_length] using h2
      rw [Array.getElem_swap]
      simp only [List.getElem_toArray, rowL, List.getElem_map, List.getElem_range, swapF]
  rw [e] at h
  exact Array.perm_iff_toList_perm.1 h |> fun q => by simpa using q
theorem Shuf.perm {T : Type} {n : Nat} {f g : Nat → T} (h : Shuf 0 n f g) : (rowL g n).Perm (rowL f n) := by
  induction h with
  | refl => exact .refl _
  | step _ i j h1 h2 h3 h4 ih => exact (swap_perm _ n i j h2 h4).trans ih
theorem sorted_pairwise {n : Nat} {g : Nat → α × Nat} (h : SortedOn (TL le) g 0 n) : (rowL g n).Pairwise (TL le) := by
  rw [List.pairwise_iff_getElem]
  intro i j hi hj hij
  simp only [rowL, List.getElem_map, List.getElem_range]
  rw [rowL_length] at hj
  exact h i j (Nat.zero_le _) hij hj
/-- a row with its places -/
def tagF (d : List α) (x0 : α) (k : Nat) : α × Nat := (d[k]?.getD x0, k)
theorem tagF_row (d : List α) (x0 : α) : rowL (tagF d x0) d.length = d.zipIdx := by
  apply List.ext_getElem
  · simp [rowL_length]
  · intro i h1 h2
    have hi : i < d.length := by simpa [rowL_length] using h1
    simp [rowL, tagF, hi]
theorem sort_end (tr : ∀ x y z, le x y = true → le y z = true → le x z = true) (tot : ∀ x y, le x y = true ∨ le y x = true) (d : List α) (x0 : α) {g : Nat → α × Nat}
    (hs : Shuf 0 d.length (tagF d x0) g) (hS : SortedOn (TL le) g 0 d.length) : (rowL g d.length).map Prod.fst = d.mergeSort le := by
  rw [← List.mergeSort_zipIdx]
  congr 1
  have tot' : ∀ x y : α, (le x y || le y x) = true := fun x y => by rcases tot x y with h | h <;> simp [h]
  have hp : (rowL g d.length).Perm (d.zipIdx.mergeSort (List.zipIdxLE le)) := by
    rw [← tagF_row d x0]
    exact hs.perm.trans (List.mergeSort_perm _ _).symm
  have hZ : ∀ x y, TL le x y → List.zipIdxLE le x y = true := by
    rintro ⟨x, i⟩ ⟨y, j⟩ ⟨h1, h2⟩
    simp only [List.zipIdxLE]
    rw [if_pos h1]
    rcases h2 with h2 | h2
    · rw [if_neg (by simp only [] at h2 ⊢; rw [h2]; decide)]
    · split
      · exact decide_eq_true (Nat.le_of_lt h2)
      · rfl
  have h1 : (rowL g d.length).Pairwise (fun a b => List.zipIdxLE le a b = true) := (sorted_pairwise hS).imp (fun h => hZ _ _ h)
  have h2 : (d.zipIdx.mergeSort (List.zipIdxLE le)).Pairwise (fun a b => List.zipIdxLE le a b = true) := List.pairwise_mergeSort (List.zipIdxLE_trans (fun a b c => tr a b c)) (List.zipIdxLE_total tot') _
  refine hp.eq_of_pairwise ?_ h1 h2
  rintro ⟨x, i⟩ ⟨y, j⟩ hx hy hxy hyx
  have hx' : (x, i) ∈ d.zipIdx := by
    have := (hp.mem_iff).1 hx
    exact (List.mergeSort_perm _ _).mem_iff.1 this
  have hy' : (y, j) ∈ d.zipIdx := (List.mergeSort_perm _ _).mem_iff.1 hy
  simp only [List.zipIdxLE] at hxy hyx
  have hxl : le x y = true := by
    split at hxy
    · assumption
    · cases hxy
  have hyl : le y x = true := by
    split at hyx
    · assumption
    · cases hyx
  rw [if_pos hxl, if_pos hyl] at hxy
  rw [if_pos hyl, if_pos hxl] at hyx
  have e : i = j := Nat.le_antisymm (of_decide_eq_true hxy) (of_decide_eq_true hyx)
  subst e
  have a1 := List.mem_zipIdx_iff_getElem?.1 hx'
  have a2 := List.mem_zipIdx_iff_getElem?.1 hy'
  simp only [] at a1 a2
  rw [a1] at a2
  rw [Option.some.inj a2]
end
end Go.Proofs.Ytfbapbgiegploaa.Smg
