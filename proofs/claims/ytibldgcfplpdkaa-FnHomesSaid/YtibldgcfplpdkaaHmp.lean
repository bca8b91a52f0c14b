/- FnHomes, plain: places are led back; jumps change only to the new one. -/
import Derived.Test.YtibldgcfplpdkaaSwq
import Derived.Test.YtibldgcfplpdkaaJmp
import Derived.Test.YtibldgcfplpdkaaHom
namespace Go.Proofs.Ytibldgcfplpdkaa
open Go.ChangeShapes Go.WideShapes Go.ChangeAt Go.RowKit Go.Proofs.Ytibldgcfplpdkaa.Flo
set_option linter.unusedVariables false
theorem firstN_first {f : Nat → Nat} {n : Nat} : ∀ {p m k r : Nat}, 1 ≤ p → p ≤ m → iter f p k = r → r < n → (∀ q, 1 ≤ q → q < p → ¬ iter f q k < n) → firstN f n m k = some r
  | 0, _, _, _, h, _, _, _, _ => by omega
  | p + 1, 0, _, _, _, h, _, _, _ => by omega
  | p + 1, m + 1, k, r, _, hm, he, hr, hq => by
    unfold firstN
    by_cases hp : p = 0
    · subst hp
      have e1 : f k = r := he
      rw [e1, if_pos hr]
    · have e1 : ¬ f k < n := hq 1 (by omega) (by omega)
      rw [if_neg e1]
      exact firstN_first (p := p) (by omega) (by omega) (by rw [← iter_shift]; exact he) hr (fun q h1 h2 => by rw [← iter_shift]; exact hq (q + 1) (by omega) (by omega))
theorem firstN_ways {f : Nat → Nat} {n : Nat} : ∀ {m k r : Nat}, firstN f n m k = some r → ∃ p, 1 ≤ p ∧ p ≤ m ∧ iter f p k = r ∧ r < n ∧ ∀ q, 1 ≤ q → q < p → ¬ iter f q k < n
  | 0, _, _, h => by cases h
  | m + 1, k, r, h => by
    unfold firstN at h
    by_cases e1 : f k < n
    · rw [if_pos e1] at h
      cases h
      exact ⟨1, by omega, by omega, rfl, e1, fun q h1 h2 => by omega⟩
    · rw [if_neg e1] at h
      obtain ⟨p, p1, p2, p3, p4, p5⟩ := firstN_ways h
      refine ⟨p + 1, by omega, by omega, by rw [iter_shift]; exact p3, p4, fun q h1 h2 => ?_⟩
      obtain ⟨q, rfl⟩ : ∃ q', q = q' + 1 := ⟨q - 1, by omega⟩
      rw [iter_shift]
      by_cases hq : q = 0
      · subst hq; exact e1
      · exact p5 q (by omega) (by omega)
theorem iter_back {f g : Nat → Nat} {N : Nat} (hf : ∀ x, x < N → f x < N) (hg : ∀ x, x < N → g (f x) = x) {k : Nat} (hk : k < N) : ∀ q p, q ≤ p → iter g q (iter f p k) = iter f (p - q) k
  | 0, p, _ => rfl
  | q + 1, p, h => by
    rw [iter_shift]
    obtain ⟨p, rfl⟩ : ∃ p', p = p' + 1 := ⟨p - 1, by omega⟩
    have e1 : g (iter f (p + 1) k) = iter f p k := hg _ (iter_lt hf p k hk)
    rw [e1, iter_back hf hg hk q p (by omega)]
    congr 1
    omega
theorem firstN_back {f g : Nat → Nat} {N n m k r : Nat} (hf : ∀ x, x < N → f x < N) (hg : ∀ x, x < N → g (f x) = x) (hn : n ≤ N) (hk : k < n) (h : firstN f n m k = some r) : firstN g n m r = some k := by
  obtain ⟨p, p1, p2, p3, p4, p5⟩ := firstN_ways h
  refine firstN_first p1 p2 ?_ hk ?_
  · rw [← p3, iter_back hf hg (by omega) p p (Nat.le_refl _), Nat.sub_self]; rfl
  · intro q h1 h2
    rw [← p3, iter_back hf hg (by omega) q p (by omega)]
    exact p5 (p - q) (by omega) (by omega)
theorem cut2_join2 {size : Nat} {p : Nat × Nat} (h : inS size p) : cut2 size (join2 size p) = p :=
  join2_inj (cut2_in (by have := h.1; omega) (join2_lt h)) h (by
    show join2 size (cut2 size (join2 size p)) = join2 size p
    unfold cut2 join2
    dsimp only
    rw [Nat.mul_comm]
    exact Nat.div_add_mod _ _)
theorem join2_cut2 (size k : Nat) : join2 size (cut2 size k) = k := by
  unfold cut2 join2
  dsimp only
  rw [Nat.mul_comm]
  exact Nat.div_add_mod _ _
theorem rndR_L (salt : Int) (size i : Nat) (p : Nat × Nat) : rndR salt size i (rndL salt size i p) = p := by
  obtain ⟨a, b⟩ := p
  unfold rndR rndL
  dsimp only
  rw [Nat.xor_assoc, Nat.xor_self, Nat.xor_zero]
theorem backN_swapN (salt : Int) (h k : Nat) (hk : k < 2 ^ h * 2 ^ h) : backN salt (2 ^ h) (swapN salt (2 ^ h) k) = k := by
  unfold backN swapN
  rw [cut2_join2 (rndL_in (rndL_in (rndL_in (rndL_in (cut2_in (Nat.two_pow_pos _) hk))))), rndR_L, rndR_L, rndR_L, rndR_L, join2_cut2]
/-- the place that k becomes -/
def swP (salt : Int) (n k : Nat) : Nat := (firstN (swapN salt (2 ^ halfN n)) n (2 ^ (2 * halfN n)) k).getD 0
theorem swP_all {salt : Int} {n k : Nat} (hs : keyB salt = true) (h1 : n ≤ 65536) (hk : k < n) :
    swP salt n k < n ∧ placeV swapN k n salt = ((swP salt n k : Nat) : Int) ∧ placeV backN (swP salt n k : Nat) n salt = (k : Int) := by
  obtain ⟨a1, a2, a3, a4⟩ := half_spec n h1
  have e := sq_pow (halfN n)
  have hf : ∀ x, x < 2 ^ (2 * halfN n) → swapN salt (2 ^ halfN n) x < 2 ^ (2 * halfN n) := fun x hx => by rw [e] at hx ⊢; exact swapN_lt salt _ x hx
  obtain ⟨r, hr⟩ := firstN_some (f := swapN salt (2 ^ halfN n)) (N := 2 ^ (2 * halfN n)) hf (fun x y hx hy he => by rw [e] at hx hy; exact swapN_inj salt _ x y hx hy he) a3 k hk
  have hrn := firstN_lt _ _ _ _ _ hr
  have hb := firstN_back (g := backN salt (2 ^ halfN n)) hf (fun x hx => by rw [e] at hx; exact backN_swapN salt _ x hx) a3 hk hr
  have hS : swP salt n k = r := by unfold swP; rw [hr]; rfl
  have b1 := placeB_mk (k := (k : Int)) (n := (n : Int)) (salt := salt) (by omega) (by omega) (by omega) (by omega) hs
  have b2 := placeB_mk (k := (r : Int)) (n := (n : Int)) (salt := salt) (by omega) (by omega) (by omega) (by omega) hs
  refine ⟨by rw [hS]; exact hrn, ?_, ?_⟩
  · unfold placeV
    rw [b1, if_pos rfl, Int.toNat_natCast, Int.toNat_natCast]
    rfl
  · rw [hS]
    unfold placeV
    rw [b2, if_pos rfl, Int.toNat_natCast, Int.toNat_natCast, hb]
    rfl
theorem swP_inj {salt : Int} {n i k : Nat} (hs : keyB salt = true) (h1 : n ≤ 65536) (hi : i < n) (hk : k < n) (h : swP salt n i = swP salt n k) : i = k := by
  have e1 := (swP_all hs h1 hi).2.2
  have e2 := (swP_all hs h1 hk).2.2
  rw [h, e2] at e1
  omega

/-- homes of one node more -/
theorem home_next (f : Nat → Int) (n : Nat) : leastAt f (n + 1) = n ∨ leastAt f (n + 1) = leastAt f n := by
  by_cases h : f n < f (leastAt f n)
  · exact .inl (leastAt_yes h)
  · exact .inr (leastAt_no h)
theorem leastAt_min (f : Nat → Int) : ∀ n i, i < n → f (leastAt f n) ≤ f i
  | 0, i, h => by omega
  | n + 1, i, h => by
    have ih := fun j hj => leastAt_min f n j hj
    by_cases hl : f n < f (leastAt f n)
    · rw [leastAt_yes hl]
      by_cases hi : i = n
      · subst hi; exact Int.le_refl _
      · have := ih i (by omega); omega
    · rw [leastAt_no hl]
      by_cases hi : i = n
      · subst hi; omega
      · exact ih i (by omega)
/-- jumps -/
theorem nextJ_gt {x j : Nat} (h : j + 1 ≤ 1000000) : j < nextJ x j := by
  have hX := nextX_lt x
  obtain ⟨K, hK⟩ : ∃ K, nextX x / 8589934592 = K := ⟨_, rfl⟩
  have hKl : K < 2147483648 := by omega
  obtain ⟨q, p, m, e, q1, q2, q3, q4, q5, q6⟩ := jump_ex (B := j + 1) (k := K) (Nat.succ_le_succ (Nat.zero_le _)) h hKl
  unfold nextJ
  rw [hK]
  obtain ⟨z, hz⟩ : ∃ z, jumpV (j + 1) K = z := ⟨_, rfl⟩
  rw [hz] at q4 q5 q6 ⊢
  clear hz
  omega
theorem runJ_next : ∀ (f n x j : Nat) (b : Int), n + 1 ≤ 1000000 → n ≤ f + j → runJ ((n + 1 : Nat) : Int) (f + 1) x b j = runJ n f x b j ∨ runJ ((n + 1 : Nat) : Int) (f + 1) x b j = n
  | f, n, x, j, b, hn, hf => by
    by_cases hj : j < n
    · obtain ⟨f, rfl⟩ : ∃ f', f = f' + 1 := ⟨f - 1, by omega⟩
      rw [runJ_go (n := ((n + 1 : Nat) : Int)) (by omega), runJ_go (n := (n : Int)) (by omega)]
      have := nextJ_gt (x := x) (j := j) (by omega)
      exact runJ_next f n _ _ _ hn (by omega)
    · rw [runJ_end (n := (n : Int)) (by omega)]
      by_cases he : j = n
      · subst he
        have := nextJ_gt (x := x) (j := j) (by omega)
        rw [runJ_go (n := ((j + 1 : Nat) : Int)) (by omega), runJ_end (by omega)]
        exact .inr rfl
      · rw [runJ_end (by omega)]
        exact .inl rfl
  termination_by f => f
theorem runJ_in : ∀ (f n x j : Nat) (b : Int), (0 ≤ b ∧ b < n) ∨ (j < n ∧ 1 ≤ f) → 0 ≤ runJ n f x b j ∧ runJ n f x b j < n
  | 0, n, x, j, b, h => by rcases h with h | h; exact h; omega
  | f + 1, n, x, j, b, h => by
    by_cases hj : j < n
    · rw [runJ_go (by omega)]
      exact runJ_in f n _ _ _ (.inl ⟨by omega, by omega⟩)
    · rw [runJ_end (by omega)]
      rcases h with h | h
      · exact h
      · omega
def jumpN (key : Int) (n : Nat) : Int := runJ n n key.toNat (-1) 0
theorem jumpR_is {key : Int} {n : Nat} (hk : keyB key = true) (h1 : 1 ≤ n) (h2 : n ≤ 1000000) : jumpR key n = (jumpN key n, true) := by
  have hb : jumpB key n = true := by unfold jumpB; rw [hk, inB_yes (by omega) (by omega)]; rfl
  rw [jumpR_y hb, Int.toNat_natCast]
  rfl
theorem jumpN_in (key : Int) {n : Nat} (h : 1 ≤ n) : 0 ≤ jumpN key n ∧ jumpN key n < n := runJ_in n n _ 0 (-1) (.inr ⟨h, h⟩)
theorem jumpN_next (key : Int) {n : Nat} (h : n + 1 ≤ 1000000) : jumpN key (n + 1) = jumpN key n ∨ jumpN key (n + 1) = n := runJ_next n n _ 0 (-1) h (by omega)
end Go.Proofs.Ytibldgcfplpdkaa
