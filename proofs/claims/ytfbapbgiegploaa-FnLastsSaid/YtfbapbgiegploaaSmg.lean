/- A stable sort by blocks that are merged in place: plain facts over rows (functions of places), no program. -/
import Derived.WalkKit
namespace Go.Proofs.Ytfbapbgiegploaa.Smg
set_option linter.unusedVariables false
section
variable {T : Type}
def swapF (f : Nat → T) (i j : Nat) : Nat → T := fun k => if k = i then f j else if k = j then f i else f k
/-- swaps of places from a to b - 1 -/
inductive Shuf (a b : Nat) : (Nat → T) → (Nat → T) → Prop
  | refl (f : Nat → T) : Shuf a b f f
  | step {f g : Nat → T} (h : Shuf a b f g) (i j : Nat) (h1 : a ≤ i) (h2 : i < b) (h3 : a ≤ j) (h4 : j < b) : Shuf a b f (swapF g i j)
theorem Shuf.trans {a b : Nat} {f g h : Nat → T} (x : Shuf a b f g) (y : Shuf a b g h) : Shuf a b f h := by
  induction y with
  | refl => exact x
  | step _ i j h1 h2 h3 h4 ih => exact .step ih i j h1 h2 h3 h4
theorem Shuf.mono {a b a' b' : Nat} {f g : Nat → T} (x : Shuf a b f g) (h : a' ≤ a) (h' : b ≤ b') : Shuf a' b' f g := by
  induction x with
  | refl => exact .refl f
  | step _ i j h1 h2 h3 h4 ih => exact .step ih i j (by omega) (by omega) (by omega) (by omega)
theorem Shuf.out {a b : Nat} {f g : Nat → T} (x : Shuf a b f g) : ∀ k, (k < a ∨ b ≤ k) → g k = f k := by
  induction x with
  | refl => exact fun _ _ => rfl
  | step _ i j h1 h2 h3 h4 ih =>
    intro k hk
    unfold swapF
    rw [if_neg (by omega), if_neg (by omega)]
    exact ih k hk
theorem Shuf.all {a b : Nat} {f g : Nat → T} (x : Shuf a b f g) (P : T → Prop) (h : ∀ k, a ≤ k → k < b → P (f k)) : ∀ k, a ≤ k → k < b → P (g k) := by
  induction x with
  | refl => exact h
  | step _ i j h1 h2 h3 h4 ih =>
    intro k hk hk'
    unfold swapF
    split
    · exact ih j h3 h4
    · split
      · exact ih i h1 h2
      · exact ih k hk hk'
/-- a row in which the parts from a to m - 1 and from m to b - 1 have changed places -/
def rotF (f : Nat → T) (a m b : Nat) : Nat → T := fun k => if a ≤ k ∧ k < a + (b - m) then f (k + (m - a)) else if a + (b - m) ≤ k ∧ k < b then f (k - (b - m)) else f k
/-- n places from a on have been swapped with those from b on -/
def swpF (f : Nat → T) (a b n : Nat) : Nat → T := fun k => if a ≤ k ∧ k < a + n then f (k + (b - a)) else if b ≤ k ∧ k < b + n then f (k - (b - a)) else f k
theorem swpF_zero (f : Nat → T) (a b : Nat) : swpF f a b 0 = f := by
  funext k; unfold swpF; rw [if_neg (by omega), if_neg (by omega)]
theorem swpF_step (f : Nat → T) (a b n : Nat) (h : a + n < b) : swapF (swpF f a b n) (a + n) (b + n) = swpF f a b (n + 1) := by
  funext k
  simp only [swapF, swpF]
  repeat' split
  all_goals first | rfl | (exfalso; omega) | (congr 1; omega)
theorem swpF_shuf (f : Nat → T) {a b lo hi : Nat} (h1 : lo ≤ a) : ∀ n, a + n ≤ b → b + n ≤ hi → Shuf lo hi f (swpF f a b n)
  | 0, _, _ => by rw [swpF_zero]; exact .refl f
  | n + 1, h2, h3 => by
    rw [← swpF_step f a b n (by omega)]
    exact .step (swpF_shuf f h1 n (by omega) (by omega)) _ _ (by omega) (by omega) (by omega) (by omega)
/-- a step of the rotation: the left part is the longer one -/
theorem rot_left (g : Nat → T) {m i j : Nat} (h : j < i) (hi : i ≤ m) : rotF (swpF g (m - i) m j) (m - i + j) m (m + j) = rotF g (m - i) m (m + j) := by
  funext k
  simp only [rotF, swpF]
  repeat' split
  all_goals first | rfl | (exfalso; omega) | (congr 1; omega)
/-- .. the right part is the longer one -/
theorem rot_right (g : Nat → T) {m i j : Nat} (h : i < j) (hi : i ≤ m) : rotF (swpF g (m - i) (m + j - i) i) (m - i) m (m + (j - i)) = rotF g (m - i) m (m + j) := by
  funext k
  simp only [rotF, swpF]
  repeat' split
  all_goals first | rfl | (exfalso; omega) | (congr 1; omega)
theorem rot_even (g : Nat → T) {m i : Nat} (hi : i ≤ m) : swpF g (m - i) m i = rotF g (m - i) m (m + i) := by
  funext k
  simp only [rotF, swpF]
  repeat' split
  all_goals first | rfl | (exfalso; omega) | (congr 1; omega)
theorem rot_none_l (f : Nat → T) (a b : Nat) : rotF f a a b = f := by
  funext k; unfold rotF
  split
  · congr 1; omega
  · split
    · omega
    · rfl
theorem rot_none_r (f : Nat → T) (a b : Nat) : rotF f a b b = f := by
  funext k; unfold rotF
  split
  · omega
  · split
    · congr 1; omega
    · rfl
/-- a number is brought behind those that follow, place by place -/
theorem rot_up (f : Nat → T) (a k : Nat) (h : a ≤ k) : swapF (rotF f a (a + 1) (k + 1)) k (k + 1) = rotF f a (a + 1) (k + 2) := by
  funext q
  simp only [swapF, rotF]
  repeat' split
  all_goals first | rfl | (exfalso; omega) | (congr 1; omega)
/-- .. ahead of those before it -/
theorem rot_down (f : Nat → T) (k m : Nat) (h : 0 < k) (hm : k ≤ m) : swapF (rotF f k m (m + 1)) k (k - 1) = rotF f (k - 1) m (m + 1) := by
  funext q
  simp only [swapF, rotF]
  repeat' split
  all_goals first | rfl | (exfalso; omega) | (congr 1; omega)
theorem rot_up_shuf (f : Nat → T) (a : Nat) {lo hi : Nat} (h : lo ≤ a) : ∀ d, a + 1 + d ≤ hi → Shuf lo hi f (rotF f a (a + 1) (a + 1 + d))
  | 0, _ => by rw [Nat.add_zero, rot_none_r]; exact .refl f
  | d + 1, hd => by
    have e := rot_up f a (a + d) (by omega)
    rw [show a + d + 1 = a + 1 + d by omega, show a + d + 2 = a + 1 + (d + 1) by omega] at e
    rw [← e]
    exact .step (rot_up_shuf f a h d (by omega)) _ _ (by omega) (by omega) (by omega) (by omega)
theorem rot_down_shuf (f : Nat → T) (m : Nat) {lo hi : Nat} (h2 : m + 1 ≤ hi) : ∀ d, d ≤ m → lo ≤ m - d → Shuf lo hi f (rotF f (m - d) m (m + 1))
  | 0, _, _ => by rw [Nat.sub_zero, rot_none_l]; exact .refl f
  | d + 1, h, hl => by
    have e := rot_down f (m - d) m (by omega) (by omega)
    rw [show m - (d + 1) = m - d - 1 by omega, ← e]
    exact .step (rot_down_shuf f m h2 d (by omega) (by omega)) _ _ (by omega) (by omega) (by omega) (by omega)

variable (L : T → T → Prop)
def SortedOn (f : Nat → T) (a b : Nat) : Prop := ∀ i j, a ≤ i → i < j → j < b → L (f i) (f j)
variable {L}
theorem SortedOn.sub {f : Nat → T} {a b a' b' : Nat} (h : SortedOn L f a b) (h1 : a ≤ a') (h2 : b' ≤ b) : SortedOn L f a' b' := fun i j hi hj hb => h i j (by omega) hj (by omega)
theorem SortedOn.one (f : Nat → T) {a b : Nat} (h : b ≤ a + 1) : SortedOn L f a b := fun i j hi hj hb => by omega
theorem SortedOn.congr {f g : Nat → T} {a b : Nat} (h : SortedOn L f a b) (e : ∀ k, a ≤ k → k < b → g k = f k) : SortedOn L g a b := fun i j hi hj hb => by rw [e i (by omega) (by omega), e j (by omega) (by omega)]; exact h i j hi hj hb
/-- all of one part are less than all of another one -/
def Cross (L : T → T → Prop) (f : Nat → T) (a m b : Nat) : Prop := ∀ i j, a ≤ i → i < m → m ≤ j → j < b → L (f i) (f j)
theorem SortedOn.join {f : Nat → T} {a m b : Nat} (h : SortedOn L f a m) (k : SortedOn L f m b) (c : Cross L f a m b) : SortedOn L f a b := fun i j hi hj hb => by
  by_cases h1 : j < m
  · exact h i j hi hj h1
  · by_cases h2 : i < m
    · exact c i j hi h2 (by omega) hb
    · exact k i j (by omega) hj hb
theorem Cross.left {f g : Nat → T} {a m b : Nat} (c : Cross L f a m b) (s : Shuf a m f g) : Cross L g a m b := fun i j hi him hmj hb => by
  rw [s.out j (by omega)]
  exact s.all (fun x => L x (f j)) (fun k h1 h2 => c k j h1 h2 hmj hb) i hi him
theorem Cross.right {f g : Nat → T} {a m b : Nat} (c : Cross L f a m b) (s : Shuf m b f g) : Cross L g a m b := fun i j hi him hmj hb => by
  rw [s.out i (by omega)]
  exact s.all (fun x => L (f i) x) (fun k h1 h2 => c i k hi him h1 h2) j hmj hb
/-- what a merge in the middle leaves: four sorted parts, and the first two before the others -/
theorem mid_cross (tr : ∀ x y z, L x y → L y z → L x z) {f : Nat → T} {a m b s e : Nat} (h1 : SortedOn L f a m) (h2 : SortedOn L f m b) (ha : a ≤ s) (hs : s ≤ m) (he : m ≤ e) (hb : e ≤ b)
    (c1 : a < s → e < b → L (f (s - 1)) (f e)) (c2 : s < m → m < e → L (f (e - 1)) (f s)) : Cross L (rotF f s m e) a (s + (e - m)) b := by
  have le1 : ∀ i j, a ≤ i → i ≤ j → j < m → i = j ∨ L (f i) (f j) := fun i j hi hij hj => by
    by_cases e : i = j
    · exact .inl e
    · exact .inr (h1 i j hi (by omega) hj)
  have le2 : ∀ i j, m ≤ i → i ≤ j → j < b → i = j ∨ L (f i) (f j) := fun i j hi hij hj => by
    by_cases e : i = j
    · exact .inl e
    · exact .inr (h2 i j hi (by omega) hj)
  have lc : ∀ i j x, a ≤ i → i ≤ j → j < m → L (f j) x → L (f i) x := fun i j x hi hij hj hx => by
    rcases le1 i j hi hij hj with rfl | h
    · exact hx
    · exact tr _ _ _ h hx
  have lc2 : ∀ i j x, m ≤ i → i ≤ j → j < b → L (f j) x → L (f i) x := fun i j x hi hij hj hx => by
    rcases le2 i j hi hij hj with rfl | h
    · exact hx
    · exact tr _ _ _ h hx
  have rc : ∀ i j x, a ≤ i → i ≤ j → j < m → L x (f i) → L x (f j) := fun i j x hi hij hj hx => by
    rcases le1 i j hi hij hj with rfl | h
    · exact hx
    · exact tr _ _ _ hx h
  have rc2 : ∀ i j x, m ≤ i → i ≤ j → j < b → L x (f i) → L x (f j) := fun i j x hi hij hj hx => by
    rcases le2 i j hi hij hj with rfl | h
    · exact hx
    · exact tr _ _ _ hx h
  intro i j hi hil hj hjb
  unfold rotF
  by_cases q1 : i < s
  · rw [if_neg (by omega), if_neg (by omega)]
    by_cases q2 : j < e
    · rw [if_neg (by omega), if_pos (by omega)]
      exact h1 i (j - (e - m)) (by omega) (by omega) (by omega)
    · rw [if_neg (by omega), if_neg (by omega)]
      exact lc i (s - 1) _ hi (by omega) (by omega) (rc2 e j _ (by omega) (by omega) hjb (c1 (by omega) (by omega)))
  · rw [if_pos (by omega)]
    by_cases q2 : j < e
    · rw [if_neg (by omega), if_pos (by omega)]
      exact lc2 (i + (m - s)) (e - 1) _ (by omega) (by omega) (by omega) (rc s (j - (e - m)) _ (by omega) (by omega) (by omega) (c2 (by omega) (by omega)))
    · rw [if_neg (by omega), if_neg (by omega)]
      exact h2 (i + (m - s)) j (by omega) (by omega) hjb
theorem rot_parts {f : Nat → T} {a m b s e : Nat} (h1 : SortedOn L f a m) (h2 : SortedOn L f m b) (ha : a ≤ s) (hs : s ≤ m) (he : m ≤ e) (hb : e ≤ b) :
    SortedOn L (rotF f s m e) a s ∧ SortedOn L (rotF f s m e) s (s + (e - m)) ∧ SortedOn L (rotF f s m e) (s + (e - m)) e ∧ SortedOn L (rotF f s m e) e b := by
  refine ⟨?_, ?_, ?_, ?_⟩
  · intro i j hi hij hj
    unfold rotF
    rw [if_neg (by omega), if_neg (by omega), if_neg (by omega), if_neg (by omega)]
    exact h1 i j hi hij (by omega)
  · intro i j hi hij hj
    unfold rotF
    rw [if_pos (by omega), if_pos (by omega)]
    exact h2 _ _ (by omega) (by omega) (by omega)
  · intro i j hi hij hj
    unfold rotF
    rw [if_neg (by omega), if_pos (by omega), if_neg (by omega), if_pos (by omega)]
    exact h1 _ _ (by omega) (by omega) (by omega)
  · intro i j hi hij hj
    unfold rotF
    rw [if_neg (by omega), if_neg (by omega), if_neg (by omega), if_neg (by omega)]
    exact h2 i j (by omega) hij hj
/-- one number ahead of a sorted part is brought to its place -/
theorem up_sorted (tr : ∀ x y z, L x y → L y z → L x z) {f : Nat → T} {a b i : Nat} (h : SortedOn L f (a + 1) b) (hi : a + 1 ≤ i) (hb : i ≤ b) (c1 : a + 1 < i → L (f (i - 1)) (f a)) (c2 : i < b → L (f a) (f i)) : SortedOn L (rotF f a (a + 1) i) a b := by
  have hp := rot_parts (SortedOn.one f (a := a) (b := a + 1) (Nat.le_refl _)) h (Nat.le_refl a) (Nat.le_succ a) hi hb
  have hc := mid_cross tr (SortedOn.one f (a := a) (b := a + 1) (Nat.le_refl _)) h (Nat.le_refl a) (Nat.le_succ a) hi hb (fun q => by omega) (fun _ q => c1 q)
  obtain ⟨p1, p2, p3, p4⟩ := hp
  refine p2.join (p3.join p4 ?_) hc
  intro x y hx hxe hy hyb
  unfold rotF
  rw [if_neg (by omega), if_pos (by omega), if_neg (by omega), if_neg (by omega)]
  rw [show x - (i - (a + 1)) = a by omega]
  have := c2 (by omega)
  by_cases e : y = i
  · subst e; exact this
  · exact tr _ _ _ this (h i y hi (by omega) hyb)
/-- one number behind a sorted part is brought to its place -/
theorem down_sorted (tr : ∀ x y z, L x y → L y z → L x z) {f : Nat → T} {a m i : Nat} (h : SortedOn L f a m) (hi : a ≤ i) (hm : i ≤ m) (c1 : a < i → L (f (i - 1)) (f m)) (c2 : i < m → L (f m) (f i)) : SortedOn L (rotF f i m (m + 1)) a (m + 1) := by
  have hp := rot_parts h (SortedOn.one f (a := m) (b := m + 1) (Nat.le_refl _)) hi hm (Nat.le_succ m) (Nat.le_refl _)
  obtain ⟨p1, p2, p3, p4⟩ := hp
  have hc := mid_cross tr h (SortedOn.one f (a := m) (b := m + 1) (Nat.le_refl _)) hi hm (Nat.le_succ m) (Nat.le_refl _) (fun _ q => by omega) (fun q _ => c2 q)
  refine SortedOn.join (p1.join p2 ?_) p3 hc
  intro x y hx hxi hy hyb
  unfold rotF
  rw [if_neg (by omega), if_neg (by omega), if_pos (by omega)]
  rw [show y + (m - i) = m by omega]
  have := c1 (by omega)
  by_cases e : x = i - 1
  · subst e; exact this
  · exact tr _ _ _ (h x (i - 1) hx (by omega) (by omega)) this
/-- the parts that a merge in the middle leaves alone are sorted already -/
theorem sym_skipL {f : Nat → T} {a s M : Nat} (p1 : SortedOn L f a s) (p2 : SortedOn L f s M) (ha : a ≤ s) (hs : s ≤ M) (h : ¬ (a < s ∧ s < M)) : SortedOn L f a M := by
  by_cases e : a = s
  · subst e; exact p2
  · obtain rfl : s = M := by omega
    exact p1
theorem sym_fin {f g1 g2 g3 : Nat → T} {a M d : Nat} (haM : a ≤ M) (hMd : M ≤ d) (h0 : Shuf a d f g1) (c : Cross L g1 a M d) (h1 : Shuf a M g1 g2) (s1 : SortedOn L g2 a M) (h2 : Shuf M d g2 g3) (s2 : SortedOn L g3 M d) : Shuf a d f g3 ∧ SortedOn L g3 a d := by
  refine ⟨(h0.trans (h1.mono (Nat.le_refl _) hMd)).trans (h2.mono haM (Nat.le_refl _)), ?_⟩
  exact (s1.congr (fun k h3 h4 => h2.out k (by omega))).join s2 ((c.left h1).right h2)
end
end Go.Proofs.Ytfbapbgiegploaa.Smg
