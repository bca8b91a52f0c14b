/- Steps that permute the numbers below N come back: the first place below n; Feistel rounds. No program. -/
import Derived.Test.YtibldgcfplpdkaaHas
namespace Go.Proofs.Ytibldgcfplpdkaa
open Go Go.RowKit
set_option linter.unusedVariables false

theorem pigeon : ∀ (N : Nat) (g : Nat → Nat), (∀ i, i ≤ N → g i < N) → ∃ i j, i < j ∧ j ≤ N ∧ g i = g j
  | 0, g, h => absurd (h 0 (Nat.le_refl _)) (by omega)
  | N + 1, g, h => by
    by_cases e : ∃ i, i ≤ N ∧ g i = g (N + 1)
    · obtain ⟨i, hi, he⟩ := e
      exact ⟨i, N + 1, by omega, Nat.le_refl _, he⟩
    · have hne : ∀ i, i ≤ N → g i ≠ g (N + 1) := fun i hi he => e ⟨i, hi, he⟩
      have hv := h (N + 1) (Nat.le_refl _)
      obtain ⟨i, j, hij, hj, he⟩ := pigeon N (fun i => if g i > g (N + 1) then g i - 1 else g i) (fun i hi => by
        have h1 := h i (by omega)
        have h2 := hne i hi
        show (if g i > g (N + 1) then g i - 1 else g i) < N
        split <;> omega)
      refine ⟨i, j, hij, by omega, ?_⟩
      have h1 := hne i (by omega)
      have h2 := hne j hj
      have he' : (if g i > g (N + 1) then g i - 1 else g i) = (if g j > g (N + 1) then g j - 1 else g j) := he
      split at he' <;> split at he' <;> omega

def iter (f : Nat → Nat) : Nat → Nat → Nat
  | 0, x => x
  | n + 1, x => f (iter f n x)
theorem iter_lt {f : Nat → Nat} {N : Nat} (hf : ∀ x, x < N → f x < N) : ∀ n x, x < N → iter f n x < N
  | 0, x, h => h
  | n + 1, x, h => hf _ (iter_lt hf n x h)
theorem iter_shift (f : Nat → Nat) : ∀ n x, iter f (n + 1) x = iter f n (f x)
  | 0, x => rfl
  | n + 1, x => by
    show f (iter f (n + 1) x) = f (iter f n (f x))
    rw [iter_shift f n x]
theorem iter_cancel {f : Nat → Nat} {N : Nat} (hf : ∀ x, x < N → f x < N) (inj : ∀ x y, x < N → y < N → f x = f y → x = y) :
    ∀ i d x, x < N → iter f (i + d) x = iter f i x → iter f d x = x
  | 0, d, x, h, e => by rw [Nat.zero_add] at e; exact e
  | i + 1, d, x, h, e => by
    have e' : f (iter f (i + d) x) = f (iter f i x) := by
      have : i + 1 + d = (i + d) + 1 := by omega
      rw [this] at e; exact e
    exact iter_cancel hf inj i d x h (inj _ _ (iter_lt hf _ _ h) (iter_lt hf _ _ h) e')
theorem comes_back {f : Nat → Nat} {N : Nat} (hf : ∀ x, x < N → f x < N) (inj : ∀ x y, x < N → y < N → f x = f y → x = y) (x : Nat) (h : x < N) :
    ∃ p, 1 ≤ p ∧ p ≤ N ∧ iter f p x = x := by
  obtain ⟨i, j, hij, hj, he⟩ := pigeon N (fun i => iter f i x) (fun i _ => iter_lt hf i x h)
  refine ⟨j - i, by omega, by omega, iter_cancel hf inj i (j - i) x h ?_⟩
  rw [show i + (j - i) = j by omega]
  exact he.symm
/-- the first place below n, within so many steps -/
def firstN (f : Nat → Nat) (n : Nat) : Nat → Nat → Option Nat
  | 0, _ => none
  | m + 1, k => if f k < n then some (f k) else firstN f n m (f k)
theorem firstN_of (f : Nat → Nat) (n : Nat) : ∀ p k m, 1 ≤ p → p ≤ m → iter f p k < n → ∃ r, firstN f n m k = some r
  | 0, _, _, h, _, _ => by omega
  | p + 1, k, 0, _, h, _ => by omega
  | p + 1, k, m + 1, _, hm, hi => by
    by_cases e : f k < n
    · exact ⟨f k, by unfold firstN; rw [if_pos e]⟩
    · by_cases hp : p = 0
      · subst hp; exact absurd hi e
      · obtain ⟨r, hr⟩ := firstN_of f n p (f k) m (by omega) (by omega) (by rw [← iter_shift]; exact hi)
        exact ⟨r, by unfold firstN; rw [if_neg e]; exact hr⟩
theorem firstN_some {f : Nat → Nat} {N n : Nat} (hf : ∀ x, x < N → f x < N) (inj : ∀ x y, x < N → y < N → f x = f y → x = y) (hn : n ≤ N) (k : Nat) (h : k < n) : ∃ r, firstN f n N k = some r := by
  obtain ⟨p, h1, h2, h3⟩ := comes_back hf inj k (by omega)
  exact firstN_of f n p k N h1 h2 (by rw [h3]; exact h)
theorem firstN_lt (f : Nat → Nat) (n : Nat) : ∀ m k r, firstN f n m k = some r → r < n
  | 0, _, _, h => by cases h
  | m + 1, k, r, h => by
    unfold firstN at h
    split at h
    · cases h; assumption
    · exact firstN_lt f n m _ r h

/-- a round of both halves -/
def saltN (salt : Int) (i : Nat) : Int := (salt + i) % 4294967296
def fN (salt : Int) (size i r : Nat) : Nat := hashN r (saltN salt i) % size
def rndL (salt : Int) (size i : Nat) (p : Nat × Nat) : Nat × Nat := (p.2, p.1 ^^^ fN salt size i p.2)
def rndR (salt : Int) (size i : Nat) (p : Nat × Nat) : Nat × Nat := (p.2 ^^^ fN salt size i p.1, p.1)
theorem xor_cancel (a b c : Nat) (h : a ^^^ c = b ^^^ c) : a = b := by
  have : (a ^^^ c) ^^^ c = (b ^^^ c) ^^^ c := by rw [h]
  rw [Nat.xor_assoc, Nat.xor_assoc, Nat.xor_self, Nat.xor_zero, Nat.xor_zero] at this
  exact this
theorem rndL_inj {salt : Int} {size i : Nat} {p q : Nat × Nat} (h : rndL salt size i p = rndL salt size i q) : p = q := by
  obtain ⟨a, b⟩ := p
  obtain ⟨c, d⟩ := q
  simp only [rndL, Prod.mk.injEq] at h
  obtain ⟨rfl, h2⟩ := h
  rw [xor_cancel _ _ _ h2]
theorem rndR_inj {salt : Int} {size i : Nat} {p q : Nat × Nat} (h : rndR salt size i p = rndR salt size i q) : p = q := by
  obtain ⟨a, b⟩ := p
  obtain ⟨c, d⟩ := q
  simp only [rndR, Prod.mk.injEq] at h
  obtain ⟨h1, rfl⟩ := h
  rw [xor_cancel _ _ _ h1]
/-- both halves below size -/
def inS (size : Nat) (p : Nat × Nat) : Prop := p.1 < size ∧ p.2 < size
theorem rndL_in {salt : Int} {h i : Nat} {p : Nat × Nat} (hp : inS (2 ^ h) p) : inS (2 ^ h) (rndL salt (2 ^ h) i p) :=
  ⟨hp.2, Nat.xor_lt_two_pow hp.1 (Nat.mod_lt _ (Nat.two_pow_pos _))⟩
theorem rndR_in {salt : Int} {h i : Nat} {p : Nat × Nat} (hp : inS (2 ^ h) p) : inS (2 ^ h) (rndR salt (2 ^ h) i p) :=
  ⟨Nat.xor_lt_two_pow hp.2 (Nat.mod_lt _ (Nat.two_pow_pos _)), hp.1⟩
def cut2 (size k : Nat) : Nat × Nat := (k / size, k % size)
def join2 (size : Nat) (p : Nat × Nat) : Nat := p.1 * size + p.2
theorem cut2_in {size k : Nat} (hs : 0 < size) (h : k < size * size) : inS size (cut2 size k) := ⟨by rw [cut2]; exact (Nat.div_lt_iff_lt_mul hs).2 h, Nat.mod_lt _ hs⟩
theorem join2_lt {size : Nat} {p : Nat × Nat} (h : inS size p) : join2 size p < size * size := by
  have h1 : p.1 * size ≤ (size - 1) * size := Nat.mul_le_mul_right _ (by have := h.1; omega)
  have h2 : (size - 1) * size + size = size * size := by
    rw [Nat.sub_mul, Nat.one_mul]
    have : size ≤ size * size := Nat.le_mul_of_pos_left _ (by have := h.1; omega)
    omega
  have := h.2
  unfold join2
  omega
theorem join2_inj {size : Nat} {p q : Nat × Nat} (hp : inS size p) (hq : inS size q) (h : join2 size p = join2 size q) : p = q := by
  obtain ⟨a, b⟩ := p
  obtain ⟨c, d⟩ := q
  unfold join2 at h
  dsimp only at h
  have hb : b < size := hp.2
  have hd : d < size := hq.2
  have e1 : (a * size + b) % size = b := by rw [Nat.add_comm, Nat.add_mul_mod_self_right]; exact Nat.mod_eq_of_lt hb
  have e2 : (c * size + d) % size = d := by rw [Nat.add_comm, Nat.add_mul_mod_self_right]; exact Nat.mod_eq_of_lt hd
  have e3 : (a * size + b) / size = a := by rw [Nat.add_comm, Nat.add_mul_div_right _ _ (by omega), Nat.div_eq_of_lt hb, Nat.zero_add]
  have e4 : (c * size + d) / size = c := by rw [Nat.add_comm, Nat.add_mul_div_right _ _ (by omega), Nat.div_eq_of_lt hd, Nat.zero_add]
  have f1 : a = c := by rw [← e3, ← e4, h]
  have f2 : b = d := by rw [← e1, ← e2, h]
  rw [f1, f2]
theorem cut2_inj {size k m : Nat} (h : cut2 size k = cut2 size m) : k = m := by
  simp only [cut2, Prod.mk.injEq] at h
  rw [← Nat.div_add_mod k size, ← Nat.div_add_mod m size, h.1, h.2]
def swapN (salt : Int) (size k : Nat) : Nat := join2 size (rndL salt size 3 (rndL salt size 2 (rndL salt size 1 (rndL salt size 0 (cut2 size k)))))
def backN (salt : Int) (size k : Nat) : Nat := join2 size (rndR salt size 0 (rndR salt size 1 (rndR salt size 2 (rndR salt size 3 (cut2 size k)))))
theorem swapN_lt (salt : Int) (h k : Nat) (hk : k < 2 ^ h * 2 ^ h) : swapN salt (2 ^ h) k < 2 ^ h * 2 ^ h :=
  join2_lt (rndL_in (rndL_in (rndL_in (rndL_in (cut2_in (Nat.two_pow_pos _) hk)))))
theorem backN_lt (salt : Int) (h k : Nat) (hk : k < 2 ^ h * 2 ^ h) : backN salt (2 ^ h) k < 2 ^ h * 2 ^ h :=
  join2_lt (rndR_in (rndR_in (rndR_in (rndR_in (cut2_in (Nat.two_pow_pos _) hk)))))
theorem swapN_inj (salt : Int) (h k m : Nat) (hk : k < 2 ^ h * 2 ^ h) (hm : m < 2 ^ h * 2 ^ h) (e : swapN salt (2 ^ h) k = swapN salt (2 ^ h) m) : k = m :=
  cut2_inj (rndL_inj (rndL_inj (rndL_inj (rndL_inj (join2_inj (rndL_in (rndL_in (rndL_in (rndL_in (cut2_in (Nat.two_pow_pos _) hk))))) (rndL_in (rndL_in (rndL_in (rndL_in (cut2_in (Nat.two_pow_pos _) hm))))) e)))))
theorem backN_inj (salt : Int) (h k m : Nat) (hk : k < 2 ^ h * 2 ^ h) (hm : m < 2 ^ h * 2 ^ h) (e : backN salt (2 ^ h) k = backN salt (2 ^ h) m) : k = m :=
  cut2_inj (rndR_inj (rndR_inj (rndR_inj (rndR_inj (join2_inj (rndR_in (rndR_in (rndR_in (rndR_in (cut2_in (Nat.two_pow_pos _) hk))))) (rndR_in (rndR_in (rndR_in (rndR_in (cut2_in (Nat.two_pow_pos _) hm))))) e)))))
end Go.Proofs.Ytibldgcfplpdkaa
