/- FnBanded, plain: small whole numbers as floats; how often a pair is told. -/
import Derived.Test.YtibldgcfplpdkaaBtn
import Derived.Test.YtibldgcfplpdkaaBps
import Derived.Test.YtibldgcfplpdkaaNps
namespace Go.Proofs.Ytibldgcfplpdkaa
open Go.ChangeShapes Go.WideShapes Go.ChangeAt Go.RowKit Go.Proofs.Ytibldgcfplpdkaa.Flo
set_option linter.unusedVariables false
def dI (z : Int) : Nat := floatOfInt .f32 z
def farV (k : Nat) : Nat := (floatBits .quo .f32 (floatOfInt .f32 (k : Int)) 1082130432).getD 0
def chkF (k : Nat) : Bool := (floatBits .quo .f32 (floatOfInt .f32 (k : Int)) 1082130432 == some (farV k)) && (isFin .f32 (farV k) && (!ltZ (farV k) && (leV (some 0) (fv .f32 (farV k)) && decide (farV k < 4294967296))))
def chkD (i j : Nat) : Bool := subF (dI (i : Int)) (dI (j : Int)) == dI ((i : Int) - j)
def chkM (i : Nat) : Bool := isFin .f32 (dI ((i : Int) - 4)) && (fop .mul .f32 (fv .f32 (dI ((i : Int) - 4))) (fv .f32 (dI ((i : Int) - 4))) == some (dI (((i : Int) - 4) * ((i : Int) - 4))))
def chkA (a b : Nat) : Bool := fop .add .f32 (some (dI (a : Int))) (some (dI (b : Int))) == some (dI ((a + b : Nat) : Int))
theorem allF : (List.range 17).all chkF = true := by decide +kernel
theorem allD : ((List.range 5).all fun i => (List.range 5).all fun j => chkD i j) = true := by decide +kernel
theorem allM : (List.range 9).all chkM = true := by decide +kernel
theorem allA : ((List.range 257).all fun a => (List.range 17).all fun b => chkA a b) = true := by decide +kernel
theorem allI : ((List.range 274).all fun a => isFin .f32 (dI (a : Int)) && decide (dI (a : Int) < 4294967296)) = true := by decide +kernel
theorem dI0 : dI 0 = 0 := by decide +kernel
theorem farV_all {k : Nat} (h : k < 17) : floatBits .quo .f32 (floatOfInt .f32 (k : Int)) 1082130432 = some (farV k) ∧ isFin .f32 (farV k) = true ∧ ltZ (farV k) = false ∧ leV (some 0) (fv .f32 (farV k)) = true ∧ farV k < 4294967296 := by
  have := List.all_eq_true.1 allF k (List.mem_range.2 h)
  unfold chkF at this
  simp only [Bool.and_eq_true, beq_iff_eq, decide_eq_true_eq, Bool.not_eq_true'] at this
  exact ⟨this.1, this.2.1, this.2.2.1, this.2.2.2.1, this.2.2.2.2⟩
theorem dI_fin {a : Nat} (h : a < 274) : isFin .f32 (dI (a : Int)) = true ∧ dI (a : Int) < 4294967296 := by
  have := List.all_eq_true.1 allI a (List.mem_range.2 h)
  simpa using this
theorem dI_sub {i j : Nat} (hi : i < 5) (hj : j < 5) : subF (dI (i : Int)) (dI (j : Int)) = dI ((i : Int) - j) := by
  have := List.all_eq_true.1 (List.all_eq_true.1 allD i (List.mem_range.2 hi)) j (List.mem_range.2 hj)
  exact eq_of_beq this
theorem dI_mul {z : Int} (h0 : -4 ≤ z) (h1 : z ≤ 4) : isFin .f32 (dI z) = true ∧ fop .mul .f32 (fv .f32 (dI z)) (fv .f32 (dI z)) = some (dI (z * z)) := by
  have := List.all_eq_true.1 allM (z + 4).toNat (List.mem_range.2 (by omega))
  unfold chkM at this
  rw [show (((z + 4).toNat : Nat) : Int) - 4 = z by omega] at this
  simpa using this
theorem dI_add {a b : Nat} (ha : a ≤ 256) (hb : b ≤ 16) : fop .add .f32 (some (dI (a : Int))) (some (dI (b : Int))) = some (dI ((a + b : Nat) : Int)) := by
  have := List.all_eq_true.1 (List.all_eq_true.1 allA a (List.mem_range.2 (by omega))) b (List.mem_range.2 (by omega))
  exact eq_of_beq this
/-- sums of squares of small whole numbers -/
theorem dot_small : ∀ (xs : List Nat) (a : Nat), (∀ x ∈ xs, ∃ z : Int, -4 ≤ z ∧ z ≤ 4 ∧ x = dI z) → a + 16 * xs.length ≤ 272 →
    ∃ b : Nat, b ≤ a + 16 * xs.length ∧ (xs.zip xs).foldl (fun s p => fop .add .f32 s (fop .mul .f32 (fv .f32 p.1) (fv .f32 p.2))) (some (dI (a : Int))) = some (dI (b : Int))
  | [], a, _, _ => ⟨a, by simp, rfl⟩
  | x :: xs, a, h, hl => by
    obtain ⟨z, z0, z1, rfl⟩ := h _ (List.mem_cons_self ..)
    rw [List.length_cons] at hl ⊢
    have hz : 0 ≤ z * z ∧ z * z ≤ 16 := by
      have : z = -4 ∨ z = -3 ∨ z = -2 ∨ z = -1 ∨ z = 0 ∨ z = 1 ∨ z = 2 ∨ z = 3 ∨ z = 4 := by omega
      rcases this with h | h | h | h | h | h | h | h | h <;> subst h <;> decide
    obtain ⟨c, hc⟩ : ∃ c : Nat, z * z = (c : Int) := ⟨(z * z).toNat, by omega⟩
    rw [List.zip_cons_cons, List.foldl_cons, (dI_mul z0 z1).2, hc, dI_add (by omega) (by omega)]
    obtain ⟨b, hb, he⟩ := dot_small xs (a + c) (fun y hy => h y (List.mem_cons_of_mem _ hy)) (by omega)
    exact ⟨b, by omega, he⟩
theorem dot_zero : ∀ (xs : List Nat), (∀ x ∈ xs, x = dI 0) → (xs.zip xs).foldl (fun s p => fop .add .f32 s (fop .mul .f32 (fv .f32 p.1) (fv .f32 p.2))) (some (dI 0)) = some (dI 0)
  | [], _ => rfl
  | x :: xs, h => by
    obtain rfl := h _ (List.mem_cons_self ..)
    have e := (dI_mul (z := 0) (by decide) (by decide)).2
    have e2 := dI_add (a := 0) (b := 0) (by decide) (by decide)
    rw [List.zip_cons_cons, List.foldl_cons, e]
    rw [show (0 : Int) * 0 = 0 from rfl]
    have e3 : fop .add .f32 (some (dI 0)) (some (dI 0)) = some (dI 0) := e2
    rw [e3]
    exact dot_zero xs (fun y hy => h y (List.mem_cons_of_mem _ hy))
/-- a list of small whole numbers -/
def Small5 (xs : List Nat) : Prop := ∀ x ∈ xs, ∃ k : Nat, k < 5 ∧ x = dI (k : Int)
theorem Small5.at {xs : List Nat} (h : Small5 xs) {i : Nat} (hi : i < xs.length) : ∃ k : Nat, k < 5 ∧ xs[i]?.getD 0 = dI (k : Int) := by
  rw [List.getElem?_eq_getElem hi]
  exact h _ (List.getElem_mem hi)
theorem Small5.fin {xs : List Nat} (h : Small5 xs) : finB xs = true ∧ ∀ x ∈ xs, x < 4294967296 :=
  ⟨finB_mk fun i hi => by obtain ⟨k, hk, e⟩ := h.at hi; rw [e]; exact (dI_fin (by omega)).1, fun x hx => by obtain ⟨k, hk, rfl⟩ := h x hx; exact (dI_fin (by omega)).2⟩
theorem Small5.vec {xs : List Nat} (h : Small5 xs) (h1 : 1 ≤ xs.length) (h2 : xs.length ≤ 32) : vecB xs = true := by
  unfold vecB; rw [decide_eq_true h1, decide_eq_true h2, h.fin.1]; rfl
theorem norm_small {xs ys : List Nat} (hx : Small5 xs) (hy : Small5 ys) (h1 : 1 ≤ xs.length) (h2 : xs.length ≤ 16) (hl : ys.length = xs.length) : (normR (diffL xs ys)).2 = true := by
  have hd : ∀ z ∈ diffL xs ys, ∃ v : Int, -4 ≤ v ∧ v ≤ 4 ∧ z = dI v := by
    intro z hz
    unfold diffL at hz
    obtain ⟨i, hi, rfl⟩ := List.mem_map.1 hz
    rw [List.mem_range] at hi
    obtain ⟨k, hk, e1⟩ := hx.at hi
    obtain ⟨m, hm, e2⟩ := hy.at (i := i) (by omega)
    rw [e1, e2, dI_sub hk hm]
    exact ⟨_, by omega, by omega, rfl⟩
  have hlen := diffL_length xs ys
  have hf : finB (diffL xs ys) = true := finB_mk fun i hi => by
    rw [List.getElem?_eq_getElem hi]
    obtain ⟨v, v0, v1, e⟩ := hd _ (List.getElem_mem hi)
    rw [Option.getD_some, e]; exact (dI_mul v0 v1).1
  have hv : vecB (diffL xs ys) = true := by unfold vecB; rw [decide_eq_true (by omega), decide_eq_true (by omega), hf]; rfl
  obtain ⟨b, hb, he⟩ := dot_small (diffL xs ys) 0 hd (by omega)
  have he' : dotV (diffL xs ys) (diffL xs ys) = some (dI (b : Int)) := by
    have e0 : dI ((0 : Nat) : Int) = 0 := dI0
    rw [e0] at he
    exact he
  have hfin : finV (dotV (diffL xs ys) (diffL xs ys)) = true := by
    rw [he']
    have := (dI_fin (a := b) (by omega)).1
    have e1 := finV_fv (dI (b : Int))
    rw [fin_fvS this] at e1
    rw [e1]; exact this
  unfold normR
  rw [hv, if_pos rfl, hfin, if_pos rfl]
theorem norm_same {xs : List Nat} (hx : Small5 xs) (h1 : 1 ≤ xs.length) (h2 : xs.length ≤ 16) : (normR (diffL xs xs)).1 = some 0 := by
  have hd : ∀ z ∈ diffL xs xs, z = dI 0 := by
    intro z hz
    unfold diffL at hz
    obtain ⟨i, hi, rfl⟩ := List.mem_map.1 hz
    rw [List.mem_range] at hi
    obtain ⟨k, hk, e1⟩ := hx.at hi
    rw [e1, dI_sub hk hk, Int.sub_self]
  have hlen := diffL_length xs xs
  have hf : finB (diffL xs xs) = true := finB_mk fun i hi => by
    rw [List.getElem?_eq_getElem hi, Option.getD_some, hd _ (List.getElem_mem hi)]
    exact (dI_mul (z := 0) (by decide) (by decide)).1
  have hv : vecB (diffL xs xs) = true := by unfold vecB; rw [decide_eq_true (by omega), decide_eq_true (by omega), hf]; rfl
  have he : dotV (diffL xs xs) (diffL xs xs) = some 0 := by
    have := dot_zero _ hd
    rw [dI0] at this
    exact this
  have hfin : finV (some 0) = true := by
    have := (dI_fin (a := 0) (by decide)).1
    have e1 := finV_fv (dI ((0 : Nat) : Int))
    rw [fin_fvS this] at e1
    have e0 : dI ((0 : Nat) : Int) = 0 := dI0
    rw [e0] at e1 this
    rw [e1]; exact this
  unfold normR
  rw [hv, if_pos rfl, he, hfin, if_pos rfl]
  exact root_0
/-- how often the pair 0, c is told -/
def hits (c : Int) : List Int → Nat
  | a :: b :: t => (if a = 0 ∧ b = c then 1 else 0) + hits c t
  | _ => 0
theorem hits_app (c : Int) : ∀ (n : Nat) (xs ys : List Int), xs.length = 2 * n → hits c (xs ++ ys) = hits c xs + hits c ys
  | 0, xs, ys, h => by
    have : xs = [] := List.eq_nil_of_length_eq_zero (by omega)
    subst this; simp [hits]
  | n + 1, [], ys, h => by simp at h
  | n + 1, [x], ys, h => by simp at h; omega
  | n + 1, a :: b :: t, ys, h => by
    have := hits_app c n t ys (by simp at h; omega)
    show (if a = 0 ∧ b = c then 1 else 0) + hits c (t ++ ys) = (if a = 0 ∧ b = c then 1 else 0) + hits c t + hits c ys
    omega
theorem prOne_ev (p : Nat → Nat → Bool) (i k : Nat) : ∃ n, (prOne p i k).length = 2 * n := by
  unfold prOne; split
  · exact ⟨1, rfl⟩
  · exact ⟨0, rfl⟩
theorem prRow_ev (p : Nat → Nat → Bool) (i : Nat) : ∀ j, ∃ n, (prRow p i j).length = 2 * n
  | 0 => ⟨0, rfl⟩
  | j + 1 => by
    obtain ⟨n, hn⟩ := prRow_ev p i j
    obtain ⟨m, hm⟩ := prOne_ev p i (i + 1 + j)
    exact ⟨n + m, by show (prRow p i j ++ prOne p i (i + 1 + j)).length = _; rw [List.length_append]; omega⟩
theorem prAll_ev (p : Nat → Nat → Bool) (n : Nat) : ∀ i, ∃ m, (prAll p n i).length = 2 * m
  | 0 => ⟨0, rfl⟩
  | i + 1 => by
    obtain ⟨m, hm⟩ := prAll_ev p n i
    obtain ⟨k, hk⟩ := prRow_ev p i (n - (i + 1))
    exact ⟨m + k, by show (prAll p n i ++ prRow p i (n - (i + 1))).length = _; rw [List.length_append]; omega⟩
theorem hits_one (p : Nat → Nat → Bool) (i k c : Nat) : hits c (prOne p i k) = if p i k = true ∧ i = 0 ∧ k = c then 1 else 0 := by
  unfold prOne
  by_cases h : p i k = true
  · rw [if_pos h]
    unfold hits
    by_cases h2 : i = 0 ∧ k = c
    · rw [if_pos ⟨by omega, by omega⟩, if_pos ⟨h, h2⟩]; rfl
    · rw [if_neg (fun h3 => h2 ⟨by omega, by omega⟩), if_neg (fun h3 => h2 h3.2)]; rfl
  · rw [if_neg h, if_neg (fun h3 => h h3.1)]; rfl
theorem hits_row (p : Nat → Nat → Bool) (i c : Nat) : ∀ j, hits c (prRow p i j) = if i = 0 ∧ 1 ≤ c ∧ c ≤ j ∧ p 0 c = true then 1 else 0
  | 0 => by rw [if_neg (by omega)]; rfl
  | j + 1 => by
    obtain ⟨n, hn⟩ := prRow_ev p i j
    show hits c (prRow p i j ++ prOne p i (i + 1 + j)) = _
    rw [hits_app c n _ _ hn, hits_row p i c j, hits_one]
    by_cases hi : i = 0
    · subst hi
      by_cases hc : c = j + 1
      · subst hc
        rw [if_neg (by omega)]
        by_cases hp : p 0 (j + 1) = true
        · rw [if_pos ⟨by rw [show 0 + 1 + j = j + 1 by omega]; exact hp, rfl, by omega⟩, if_pos ⟨rfl, by omega, by omega, hp⟩]
        · rw [if_neg (fun h => hp (by rw [show j + 1 = 0 + 1 + j by omega]; exact h.1)), if_neg (fun h => hp h.2.2.2)]
      · rw [if_neg (show ¬ (p 0 (0 + 1 + j) = true ∧ (0 : Nat) = 0 ∧ 0 + 1 + j = c) from fun h => hc (by omega))]
        by_cases hh : (0 : Nat) = 0 ∧ 1 ≤ c ∧ c ≤ j ∧ p 0 c = true
        · rw [if_pos hh, if_pos ⟨rfl, hh.2.1, by omega, hh.2.2.2⟩]
        · rw [if_neg hh, if_neg (fun h => hh ⟨rfl, h.2.1, by omega, h.2.2.2⟩)]
    · rw [if_neg (fun h => hi h.1), if_neg (fun h => hi h.2.1), if_neg (fun h => hi h.1)]
theorem hits_all (p : Nat → Nat → Bool) (n c : Nat) (h1 : 1 ≤ c) (hc : c < n) (hp : p 0 c = true) : ∀ i, hits c (prAll p n (i + 1)) = 1
  | 0 => by
    show hits c (prAll p n 0 ++ prRow p 0 (n - 1)) = 1
    rw [hits_app c 0 _ _ rfl, hits_row, if_pos ⟨rfl, h1, by omega, hp⟩]; rfl
  | i + 1 => by
    obtain ⟨m, hm⟩ := prAll_ev p n (i + 1)
    show hits c (prAll p n (i + 1) ++ prRow p (i + 1) (n - (i + 2))) = 1
    rw [hits_app c m _ _ hm, hits_all p n c h1 hc hp i, hits_row, if_neg (fun h => by omega)]
theorem hits_take (c : Int) (xs : List Int) {j : Nat} (h : 2 * j + 1 < xs.length) : hits c (xs.take (2 * (j + 1))) = hits c (xs.take (2 * j)) + if getI xs (2 * j) = 0 ∧ getI xs (2 * j + 1) = c then 1 else 0 := by
  have e : xs.take (2 * (j + 1)) = xs.take (2 * j) ++ [getI xs (2 * j), getI xs (2 * j + 1)] := by
    have a1 : getI xs (2 * j) = xs[2 * j] := by unfold getI; rw [List.getElem?_eq_getElem (by omega)]; rfl
    have a2 : getI xs (2 * j + 1) = xs[2 * j + 1] := by unfold getI; rw [List.getElem?_eq_getElem h]; rfl
    have e1 := List.take_succ_eq_append_getElem (show 2 * j + 1 < xs.length from h)
    have e0 := List.take_succ_eq_append_getElem (show 2 * j < xs.length by omega)
    rw [show 2 * (j + 1) = 2 * j + 1 + 1 by omega, e1, e0, a1, a2, List.append_assoc]
    rfl
  rw [e, hits_app c j _ _ (by rw [List.length_take]; omega)]
  congr 1
end Go.Proofs.Ytibldgcfplpdkaa
