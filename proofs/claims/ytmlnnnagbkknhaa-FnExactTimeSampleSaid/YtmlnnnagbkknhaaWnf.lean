/- TimeSample: both sides. -/
import Derived.Test.YtmlnnnagbkknhaaWne
import Derived.Test.YtmlnnnagbkknhaaLeb
namespace Go.Proofs.Ytmlnnnagbkknhaa
open Go.ChangeShapes Go.WideShapes Go.ChangeAt Go.RowKit
set_option linter.unusedVariables false
/-- the keys in a span, of the first ones -/
def fndL (t L : Int) (ts ks : List Int) : Nat → List Int
  | 0 => []
  | i + 1 => if hasB t L (getI ts i) then fndL t L ts ks i ++ [getI ks i] else fndL t L ts ks i
theorem fndL_yes {t L : Int} {ts ks : List Int} {i : Nat} (h : hasB t L (getI ts i) = true) : fndL t L ts ks (i + 1) = fndL t L ts ks i ++ [getI ks i] := if_pos h
theorem fndL_no {t L : Int} {ts ks : List Int} {i : Nat} (h : hasB t L (getI ts i) = false) : fndL t L ts ks (i + 1) = fndL t L ts ks i := if_neg (by rw [h]; decide)
theorem fndL_len (t L : Int) (ts ks : List Int) : ∀ i, (fndL t L ts ks i).length ≤ i
  | 0 => Nat.le_refl _
  | i + 1 => by
    have := fndL_len t L ts ks i
    cases h : hasB t L (getI ts i)
    · rw [fndL_no h]; omega
    · rw [fndL_yes h, List.length_append]; simp; omega
theorem fndL_keys {t L : Int} {ts ks : List Int} : ∀ {i : Nat}, (∀ j, j < i → keyB (getI ks j) = true) → ∀ x ∈ fndL t L ts ks i, keyB x = true
  | 0, _ => fun x hx => by cases hx
  | i + 1, hk => by
    have ih := fndL_keys (t := t) (L := L) (ts := ts) (ks := ks) (i := i) (fun j hj => hk j (by omega))
    cases h : hasB t L (getI ts i)
    · rw [fndL_no h]; exact ih
    · rw [fndL_yes h]
      intro x hx
      rcases List.mem_append.1 hx with hx | hx
      · exact ih x hx
      · rw [List.mem_singleton.1 hx]; exact hk i (by omega)
/-- the key of the least hash among them -/
def bstK (t L s : Int) (ts ks : List Int) : Nat → Option Int
  | 0 => none
  | i + 1 => if hasB t L (getI ts i) then (match bstK t L s ts ks i with
      | none => some (getI ks i)
      | some k => if hashN (getI ks i) s < hashN k s then some (getI ks i) else some k) else bstK t L s ts ks i
theorem bstK_no {t L s : Int} {ts ks : List Int} {i : Nat} (h : hasB t L (getI ts i) = false) : bstK t L s ts ks (i + 1) = bstK t L s ts ks i := if_neg (by rw [h]; decide)
theorem bstK_first {t L s : Int} {ts ks : List Int} {i : Nat} (h : hasB t L (getI ts i) = true) (hb : bstK t L s ts ks i = none) : bstK t L s ts ks (i + 1) = some (getI ks i) := by
  show (if _ then _ else _) = _
  rw [if_pos h, hb]
theorem bstK_less {t L s : Int} {ts ks : List Int} {i : Nat} {k : Int} (h : hasB t L (getI ts i) = true) (hb : bstK t L s ts ks i = some k) (hl : hashN (getI ks i) s < hashN k s) : bstK t L s ts ks (i + 1) = some (getI ks i) := by
  show (if _ then _ else _) = _
  rw [if_pos h, hb]
  show (if _ then _ else _) = _
  rw [if_pos hl]
theorem bstK_keep {t L s : Int} {ts ks : List Int} {i : Nat} {k : Int} (h : hasB t L (getI ts i) = true) (hb : bstK t L s ts ks i = some k) (hl : ¬ hashN (getI ks i) s < hashN k s) : bstK t L s ts ks (i + 1) = some k := by
  show (if _ then _ else _) = _
  rw [if_pos h, hb]
  show (if _ then _ else _) = _
  rw [if_neg hl]
theorem getI_snoc_lt {F : List Int} {x : Int} {j : Nat} (h : j < F.length) : getI (F ++ [x]) j = getI F j := by unfold getI; rw [List.getElem?_append_left h]
theorem getI_snoc_eq (F : List Int) (x : Int) : getI (F ++ [x]) F.length = x := by unfold getI; rw [List.getElem?_append_right (Nat.le_refl _)]; simp
theorem hashAt_getI (F : List Int) (s : Int) (j : Nat) : hashAt F s j = ((hashN (getI F j) s : Nat) : Int) := rfl
theorem bst_fnd (t L s : Int) (ts ks : List Int) : ∀ i, ((fndL t L ts ks i).length = 0 ∧ bstK t L s ts ks i = none) ∨ (1 ≤ (fndL t L ts ks i).length ∧ leastAt (hashAt (fndL t L ts ks i) s) (fndL t L ts ks i).length < (fndL t L ts ks i).length ∧ bstK t L s ts ks i = some (getI (fndL t L ts ks i) (leastAt (hashAt (fndL t L ts ks i) s) (fndL t L ts ks i).length)))
  | 0 => .inl ⟨rfl, rfl⟩
  | i + 1 => by
    have ih := bst_fnd t L s ts ks i
    cases h : hasB t L (getI ts i)
    · rw [fndL_no h, bstK_no h]; exact ih
    · rw [fndL_yes h]
      obtain ⟨F, hF⟩ : ∃ F, fndL t L ts ks i = F := ⟨_, rfl⟩
      obtain ⟨x, hx⟩ : ∃ x, getI ks i = x := ⟨_, rfl⟩
      rw [hF] at ih ⊢
      have hl : (F ++ [x]).length = F.length + 1 := by simp
      have hcg : leastAt (hashAt (F ++ [x]) s) F.length = leastAt (hashAt F s) F.length := leastAt_congr fun j hj => by rw [hashAt_getI, hashAt_getI, getI_snoc_lt hj]
      right
      rcases ih with ⟨h0, hb⟩ | ⟨h1, h2, hb⟩
      · rw [bstK_first h hb, hx]
        have hF0 : F = [] := List.length_eq_zero_iff.1 h0
        subst hF0
        refine ⟨by simp, ?_, ?_⟩
        · show leastAt _ 1 < 1
          rw [leastAt_one]; omega
        · show some x = some (getI [x] (leastAt _ 1))
          rw [leastAt_one]; rfl
      · obtain ⟨p, hp⟩ : ∃ p, leastAt (hashAt F s) F.length = p := ⟨_, rfl⟩
        rw [hp] at hcg h2 hb
        have hs : leastAt (hashAt (F ++ [x]) s) (F.length + 1) = if hashN x s < hashN (getI F p) s then F.length else p := by
          show (if hashAt (F ++ [x]) s F.length < hashAt (F ++ [x]) s (leastAt (hashAt (F ++ [x]) s) F.length) then F.length else leastAt (hashAt (F ++ [x]) s) F.length) = _
          rw [hcg, hashAt_getI, hashAt_getI, getI_snoc_eq, getI_snoc_lt h2]
          by_cases hlt : hashN x s < hashN (getI F p) s
          · rw [if_pos hlt, if_pos (by omega)]
          · rw [if_neg hlt, if_neg (by omega)]
        rw [hx, hl, hs]
        by_cases hlt : hashN x s < hashN (getI F p) s
        · rw [if_pos hlt, getI_snoc_eq]
          exact ⟨by omega, by omega, by rw [← hx]; exact bstK_less h hb (by rw [hx]; exact hlt)⟩
        · rw [if_neg hlt, getI_snoc_lt h2]
          exact ⟨by omega, by omega, bstK_keep h hb (by rw [hx]; exact hlt)⟩
def lkB (ks : List Int) : Bool := decide (1 ≤ ks.length) && (decide (ks.length ≤ 128) && keysB ks)
def tsB (ts ks : List Int) (t L s : Int) : Bool := timesC ts && (decide (ks.length = ts.length) && (keysB ks && (spanB t L && keyB s)))
def optR : Option Int → Int × Bool
  | none => (0, false)
  | some k => (k, true)
def tsR (ts ks : List Int) (t L s : Int) : Int × Bool := if tsB ts ks t L s then optR (bstK t L s ts ks ts.length) else (0, false)
theorem tsR_no {ts ks : List Int} {t L s : Int} (h : tsB ts ks t L s = false) : tsR ts ks t L s = (0, false) := if_neg (by rw [h]; decide)
theorem tsR_yes {ts ks : List Int} {t L s : Int} (h : tsB ts ks t L s = true) : tsR ts ks t L s = optR (bstK t L s ts ks ts.length) := if_pos h
theorem ownsRow_on {w w' : World} {base : Nat} {t : TypeId} {v : Value} {n : Nat} {xs : List Value} (h : w.ownsRow base t 1 v n xs) (e : Ext w w') : w'.ownsRow base t 1 v n xs := by
  refine ⟨h.1, ?_⟩
  rcases h.2 with h0 | ⟨g, cap, cur, rfl, hb, hg, hn, hm, hs, ht⟩
  · exact .inl h0
  · exact .inr ⟨g, cap, cur, rfl, hb, by rw [Below.block e g (Array.getElem?_eq_some_iff.1 hg).1]; exact hg, hn, hm, hs, ht⟩
theorem c_spec_l02Key_w (k : Int) (w : World) {b : Bool} (h : keyB k = b) : Calls Try.prog 66 #[.int .i64 k] w fun e w' => e = .returned (.bool b) ∧ w = w' := by
  subst h; exact c_spec_l02Key k w
theorem c_spec_l06Keys (a : Option Addr) (n cap : Nat) (ks : List Int) (w : World) {r : Bool} (hr : lkB ks = r) (hn : n ≤ 1048576) (h : Reads w a n (ints ks)) :
    Calls Try.prog 65 #[.slice a n cap] w fun e w' => e = .returned (.bool r) ∧ w = w' := by
  have H := Lib.hid h
  have hz := h.int.1
  have HM := Lib.hid (show n ≤ maxLen by unfold maxLen; omega)
  have hn' : (n : Int) ≤ 1048576 := by omega
  clear h
  by_cases h1 : n < 1
  · have HR := Lib.hid (show r = false by rw [← hr]; unfold lkB; rw [hz, decide_eq_false (by omega)]; rfl)
    have h1' : (n : Int) < 1 := by omega
    clear hr hz h1
    go_enter Try.func65, Try.ntmps65
    go_wp2
    go_ret
    exact ⟨retB (by first | (rw [HR.out]; done) | (rw [HR.out]; rfl) | (rw [HR.out]; simp; done) | (rw [HR.out]; simp; omega)), rfl⟩
  have h1' : (1 : Int) ≤ (n : Int) := by omega
  by_cases h2 : 128 < n
  · have HR := Lib.hid (show r = false by rw [← hr]; unfold lkB; rw [hz, decide_eq_false (show ¬ n ≤ 128 by omega)]; simp)
    have h2' : (128 : Int) < (n : Int) := by omega
    clear hr hz h1 h2
    go_enter Try.func65, Try.ntmps65
    go_wp2
    go_ret
    exact ⟨retB (by first | (rw [HR.out]; done) | (rw [HR.out]; rfl) | (rw [HR.out]; simp; done) | (rw [HR.out]; simp; omega)), rfl⟩
  have h2' : (n : Int) ≤ 128 := by omega
  have HR := Lib.hid (show keysB ks = r by rw [← hr]; unfold lkB; rw [hz, decide_eq_true (show 1 ≤ n by omega), decide_eq_true (show n ≤ 128 by omega)]; rfl)
  clear hr hz h1 h2
  go_enter Try.func65, Try.ntmps65
  go_wp2_with (go_at_call 93; refine (c_spec_l02Keys_of _ _ _ ks _ HR.out HM.out H.out).mono ?_; rintro e w' ⟨rfl, rfl⟩)
  go_ret
  exact ⟨rfl, rfl⟩
set_option maxHeartbeats 8000000 in
theorem c_spec_TimeSample (a0 : Option Addr) (n cap0 : Nat) (ts : List Int) (a1 : Option Addr) (n1 cap1 : Nat) (ks : List Int) (t L s : Int) (w : World) {v : Int} {b : Bool} (hv : tsR ts ks t L s = (v, b)) (hm : n ≤ 1048576) (h : Reads w a0 n (ints ts)) (hm1 : n1 ≤ 1048576) (h1 : Reads w a1 n1 (ints ks)) :
    Calls Try.prog 36 #[.slice a0 n cap0, .slice a1 n1 cap1, .int .i64 t, .int .i64 L, .int .i64 s] w fun e w' => e = .returned (.tuple #[.int .i64 v, .bool b]) ∧ Ext w w' := by
  have H := Lib.hid h
  have H1 := Lib.hid h1
  have HM := Lib.hid hm
  have HM1 := Lib.hid hm1
  have HMX := Lib.hid (show n1 ≤ maxLen by unfold maxLen; omega)
  obtain ⟨hz, hrd⟩ := h.int
  obtain ⟨hz1, hrd1⟩ := h1.int
  have HZ := Lib.hid hz
  have HZ1 := Lib.hid hz1
  have HR := Lib.hid hrd
  have HR1 := Lib.hid hrd1
  have hm' : (n : Int) ≤ 1048576 := by omega
  have hm1' : (n1 : Int) ≤ 1048576 := by omega
  clear h h1 hrd hrd1
  cases ht : timesC ts
  · have HT := Lib.hid ht
    have hno : tsB ts ks t L s = false := by
      unfold tsB; rw [ht]; rfl
    rw [tsR_no hno] at hv
    clear hno
    simp only [Prod.mk.injEq] at hv
    obtain ⟨rfl, rfl⟩ := hv
    clear ht hz hz1
    go_enter Try.func36, Try.ntmps36
    go_wp2_with (first | (go_at_call 61; refine (c_spec_l06Times _ _ _ ts _ HT.out HM.out H.out).mono ?_; rintro e w1 ⟨rfl, q, rfl⟩))
    go_ret2
    exact ⟨rfl, by (repeat (first | assumption | exact Ext.refl _ | (with_reducible refine Ext.stepS ?_ (by first | exact Nat.le_refl _ | (simp; done) | (simp; omega)) _) | (with_reducible refine Ext.stepN ?_ _) | (with_reducible refine Ext.stepD ?_) | (with_reducible refine Ext.stepA ?_ _)))⟩
  have HT := Lib.hid ht
  cases hk : lkB ks
  · have HK := Lib.hid hk
    have hno : tsB ts ks t L s = false := by
      cases hq : tsB ts ks t L s
      · rfl
      · unfold tsB at hq; simp only [Bool.and_eq_true, decide_eq_true_eq] at hq; unfold timesC at ht; simp only [Bool.and_eq_true, decide_eq_true_eq] at ht; unfold lkB at hk; rw [hq.2.1, decide_eq_true ht.1.1, decide_eq_true ht.1.2, hq.2.2.1] at hk; cases hk
    rw [tsR_no hno] at hv
    clear hno
    simp only [Prod.mk.injEq] at hv
    obtain ⟨rfl, rfl⟩ := hv
    clear ht hz hz1 hk
    go_enter Try.func36, Try.ntmps36
    go_wp2_with (first | (go_at_call 61; refine (c_spec_l06Times _ _ _ ts _ HT.out HM.out H.out).mono ?_; rintro e w1 ⟨rfl, q, rfl⟩) | (go_at_call 65; refine (c_spec_l06Keys _ _ _ ks _ HK.out HM1.out (H1.out.on (by (repeat (first | assumption | exact Ext.refl _ | (with_reducible refine Ext.stepS ?_ (by first | exact Nat.le_refl _ | (simp; done) | (simp; omega)) _) | (with_reducible refine Ext.stepN ?_ _) | (with_reducible refine Ext.stepD ?_) | (with_reducible refine Ext.stepA ?_ _)))))).mono ?_; rintro e w1 ⟨rfl, rfl⟩))
    go_ret2
    exact ⟨rfl, by (repeat (first | assumption | exact Ext.refl _ | (with_reducible refine Ext.stepS ?_ (by first | exact Nat.le_refl _ | (simp; done) | (simp; omega)) _) | (with_reducible refine Ext.stepN ?_ _) | (with_reducible refine Ext.stepD ?_) | (with_reducible refine Ext.stepA ?_ _)))⟩
  have HK := Lib.hid hk
  by_cases hl : ¬ n1 = n
  · have e1 : ((n1 : Int) == (n : Int)) = false := by simp; omega
    have e2 : ((n1 : Int) != (n : Int)) = true := by simp; omega
    have hno : tsB ts ks t L s = false := by
      unfold tsB; rw [hz, hz1, decide_eq_false hl]; simp
    rw [tsR_no hno] at hv
    clear hno
    simp only [Prod.mk.injEq] at hv
    obtain ⟨rfl, rfl⟩ := hv
    clear ht hz hz1 hk hl
    go_enter Try.func36, Try.ntmps36
    go_wp2_with (first | (go_at_call 61; refine (c_spec_l06Times _ _ _ ts _ HT.out HM.out H.out).mono ?_; rintro e w1 ⟨rfl, q, rfl⟩) | (go_at_call 65; refine (c_spec_l06Keys _ _ _ ks _ HK.out HM1.out (H1.out.on (by (repeat (first | assumption | exact Ext.refl _ | (with_reducible refine Ext.stepS ?_ (by first | exact Nat.le_refl _ | (simp; done) | (simp; omega)) _) | (with_reducible refine Ext.stepN ?_ _) | (with_reducible refine Ext.stepD ?_) | (with_reducible refine Ext.stepA ?_ _)))))).mono ?_; rintro e w1 ⟨rfl, rfl⟩))
    go_ret2
    exact ⟨rfl, by (repeat (first | assumption | exact Ext.refl _ | (with_reducible refine Ext.stepS ?_ (by first | exact Nat.le_refl _ | (simp; done) | (simp; omega)) _) | (with_reducible refine Ext.stepN ?_ _) | (with_reducible refine Ext.stepD ?_) | (with_reducible refine Ext.stepA ?_ _)))⟩
  obtain rfl : n1 = n := Classical.byContradiction hl
  have e1 : ((n1 : Int) == (n1 : Int)) = true := by simp
  have e2 : ((n1 : Int) != (n1 : Int)) = false := by simp
  cases hti : inB 0 t 1000000
  · have HTI := Lib.hid hti
    have hno : tsB ts ks t L s = false := by
      unfold tsB spanB; rw [hti]; simp
    rw [tsR_no hno] at hv
    clear hno
    simp only [Prod.mk.injEq] at hv
    obtain ⟨rfl, rfl⟩ := hv
    clear ht hz hz1 hk hl hti
    go_enter Try.func36, Try.ntmps36
    go_wp2_with (first | (go_at_call 61; refine (c_spec_l06Times _ _ _ ts _ HT.out HM.out H.out).mono ?_; rintro e w1 ⟨rfl, q, rfl⟩) | (go_at_call 65; refine (c_spec_l06Keys _ _ _ ks _ HK.out HM1.out (H1.out.on (by (repeat (first | assumption | exact Ext.refl _ | (with_reducible refine Ext.stepS ?_ (by first | exact Nat.le_refl _ | (simp; done) | (simp; omega)) _) | (with_reducible refine Ext.stepN ?_ _) | (with_reducible refine Ext.stepD ?_) | (with_reducible refine Ext.stepA ?_ _)))))).mono ?_; rintro e w1 ⟨rfl, rfl⟩) | (go_at_call 62; refine (c_spec_l06Time t _ HTI.out).mono ?_; rintro e w2 ⟨rfl, hw2⟩; rw [hw2]; clear hw2))
    go_ret2
    exact ⟨rfl, by (repeat (first | assumption | exact Ext.refl _ | (with_reducible refine Ext.stepS ?_ (by first | exact Nat.le_refl _ | (simp; done) | (simp; omega)) _) | (with_reducible refine Ext.stepN ?_ _) | (with_reducible refine Ext.stepD ?_) | (with_reducible refine Ext.stepA ?_ _)))⟩
  have HTI := Lib.hid hti
  cases hli : inB 1 L 1000000
  · have HLI := Lib.hid hli
    have hno : tsB ts ks t L s = false := by
      unfold tsB spanB; rw [hli]; simp
    rw [tsR_no hno] at hv
    clear hno
    simp only [Prod.mk.injEq] at hv
    obtain ⟨rfl, rfl⟩ := hv
    clear ht hz hz1 hk hl hti hli
    go_enter Try.func36, Try.ntmps36
    go_wp2_with (first | (go_at_call 61; refine (c_spec_l06Times _ _ _ ts _ HT.out HM.out H.out).mono ?_; rintro e w1 ⟨rfl, q, rfl⟩) | (go_at_call 65; refine (c_spec_l06Keys _ _ _ ks _ HK.out HM1.out (H1.out.on (by (repeat (first | assumption | exact Ext.refl _ | (with_reducible refine Ext.stepS ?_ (by first | exact Nat.le_refl _ | (simp; done) | (simp; omega)) _) | (with_reducible refine Ext.stepN ?_ _) | (with_reducible refine Ext.stepD ?_) | (with_reducible refine Ext.stepA ?_ _)))))).mono ?_; rintro e w1 ⟨rfl, rfl⟩) | (go_at_call 62; refine (c_spec_l06Time t _ HTI.out).mono ?_; rintro e w2 ⟨rfl, hw2⟩; rw [hw2]; clear hw2) | (go_at_call 51; refine (c_l00In_w L 1 1000000 _ HLI.out).mono ?_; rintro e w3 ⟨rfl, rfl⟩))
    go_ret2
    exact ⟨rfl, by (repeat (first | assumption | exact Ext.refl _ | (with_reducible refine Ext.stepS ?_ (by first | exact Nat.le_refl _ | (simp; done) | (simp; omega)) _) | (with_reducible refine Ext.stepN ?_ _) | (with_reducible refine Ext.stepD ?_) | (with_reducible refine Ext.stepA ?_ _)))⟩
  have HLI := Lib.hid hli
  cases hsk : keyB s
  · have HSK := Lib.hid hsk
    have hno : tsB ts ks t L s = false := by
      unfold tsB; rw [hsk]; simp
    rw [tsR_no hno] at hv
    clear hno
    simp only [Prod.mk.injEq] at hv
    obtain ⟨rfl, rfl⟩ := hv
    clear ht hz hz1 hk hl hti hli hsk
    go_enter Try.func36, Try.ntmps36
    go_wp2_with (first | (go_at_call 61; refine (c_spec_l06Times _ _ _ ts _ HT.out HM.out H.out).mono ?_; rintro e w1 ⟨rfl, q, rfl⟩) | (go_at_call 65; refine (c_spec_l06Keys _ _ _ ks _ HK.out HM1.out (H1.out.on (by (repeat (first | assumption | exact Ext.refl _ | (with_reducible refine Ext.stepS ?_ (by first | exact Nat.le_refl _ | (simp; done) | (simp; omega)) _) | (with_reducible refine Ext.stepN ?_ _) | (with_reducible refine Ext.stepD ?_) | (with_reducible refine Ext.stepA ?_ _)))))).mono ?_; rintro e w1 ⟨rfl, rfl⟩) | (go_at_call 62; refine (c_spec_l06Time t _ HTI.out).mono ?_; rintro e w2 ⟨rfl, hw2⟩; rw [hw2]; clear hw2) | (go_at_call 51; refine (c_l00In_w L 1 1000000 _ HLI.out).mono ?_; rintro e w3 ⟨rfl, rfl⟩) | (go_at_call 66; refine (c_spec_l02Key_w s _ HSK.out).mono ?_; rintro e w4 ⟨rfl, rfl⟩))
    go_ret2
    exact ⟨rfl, by (repeat (first | assumption | exact Ext.refl _ | (with_reducible refine Ext.stepS ?_ (by first | exact Nat.le_refl _ | (simp; done) | (simp; omega)) _) | (with_reducible refine Ext.stepN ?_ _) | (with_reducible refine Ext.stepD ?_) | (with_reducible refine Ext.stepA ?_ _)))⟩
  have HSK := Lib.hid hsk
  have hkk : keysB ks = true := by unfold lkB at hk; simp only [Bool.and_eq_true] at hk; exact hk.2.2
  have HKK := Lib.hid hkk
  have hb1 := inB_isW.1 hti
  have hb2 := inB_isW.1 hli
  rw [tsR_yes (by unfold tsB spanB; rw [ht, hz, hz1, decide_eq_true rfl, hkk, hti, hli, hsk]; rfl), hz] at hv
  have HV := Lib.hid hv
  obtain ⟨d, hd⟩ : ∃ d, t - L = d := ⟨_, rfl⟩
  have HD := Lib.hid hd
  have hwd : wrap64 (t - L) = d := by unfold wrap64; omega
  obtain ⟨hb3, hb4⟩ := hb1
  obtain ⟨hb5, hb6⟩ := hb2
  clear ht hz hz1 hk hl hti hli hsk hkk hv
  go_enter Try.func36, Try.ntmps36
  go_wp2_with (first | (go_at_call 61; refine (c_spec_l06Times _ _ _ ts _ HT.out HM.out H.out).mono ?_; rintro e w1 ⟨rfl, q, rfl⟩) | (go_at_call 65; refine (c_spec_l06Keys _ _ _ ks _ HK.out HM1.out (H1.out.on (by (repeat (first | assumption | exact Ext.refl _ | (with_reducible refine Ext.stepS ?_ (by first | exact Nat.le_refl _ | (simp; done) | (simp; omega)) _) | (with_reducible refine Ext.stepN ?_ _) | (with_reducible refine Ext.stepD ?_) | (with_reducible refine Ext.stepA ?_ _)))))).mono ?_; rintro e w1 ⟨rfl, rfl⟩) | (go_at_call 62; refine (c_spec_l06Time t _ HTI.out).mono ?_; rintro e w2 ⟨rfl, hw2⟩; rw [hw2]; clear hw2) | (go_at_call 51; refine (c_l00In_w L 1 1000000 _ HLI.out).mono ?_; rintro e w3 ⟨rfl, rfl⟩) | (go_at_call 66; refine (c_spec_l02Key_w s _ HSK.out).mono ?_; rintro e w4 ⟨rfl, rfl⟩))
  go_loopw [12, 13] (fun c i wr => ∃ (k q : Nat) (bv : Int), k ≤ n1 ∧ i = .int .i64 k ∧ c = .int .i64 bv ∧ ((bv = -1 ∧ bstK t L s ts ks k = none) ∨ (∃ j : Nat, j < k ∧ bv = (j : Int) ∧ bstK t L s ts ks k = some (getI ks j))) ∧ wr = w.drewN q) (fun _ i _ => n1 - (intOf i).toNat)
  case atStart => exact ⟨0, _, -1, Nat.zero_le _, rfl, rfl, .inl ⟨rfl, rfl⟩, rfl⟩
  case round =>
    obtain ⟨k, q2, bv, hk, rfl, rfl, hb, hw⟩ := hrel
    have HW := Lib.hid hw
    have HB := Lib.hid hb
    clear hw hb
    by_cases hlt : k < n1
    · rcases HR.out with h0 | ⟨b0, off, rfl, hc⟩
      · omega
      rcases HR1.out with h0 | ⟨b1, off1, rfl, hc1⟩
      · omega
      have c1 : wr.cell? ⟨b0, off + k, none⟩ = some (.int .i64 (getI ts k)) := by rw [HW.out]; exact hc k hlt
      have c2 : wr.cell? ⟨b1, off1 + k, none⟩ = some (.int .i64 (getI ks k)) := by rw [HW.out]; exact hc1 k hlt
      obtain ⟨x, hx⟩ : ∃ x, getI ts k = x := ⟨_, rfl⟩
      obtain ⟨y, hy⟩ : ∃ y, getI ks k = y := ⟨_, rfl⟩
      have HX := Lib.hid hx
      have HY := Lib.hid hy
      have HKY := Lib.hid (show keyB y = true by rw [← hy]; exact keysB_at HKK.out (by rw [HZ1.out]; exact hlt))
      rw [hx] at c1
      rw [hy] at c2
      have hkn : (k : Int) < (n1 : Int) := by omega
      clear hx hy
      by_cases g1 : d < x
      · have g1d : decide (d < x) = true := decide_eq_true g1
        by_cases g2 : x ≤ t
        · have g2d : decide (x ≤ t) = true := decide_eq_true g2
          have HHB := Lib.hid (show hasB t L (getI ts k) = true by rw [HX.out]; unfold hasB; rw [HD.out, g1d, g2d]; rfl)
          rcases HB.out with ⟨hb1, hb2⟩ | ⟨j, hj, hb1, hb2⟩
          · subst hb1
            have HN := Lib.hid (show (((k : Nat) : Int) = -1 ∧ bstK t L s ts ks (k + 1) = none) ∨ (∃ j : Nat, j < k + 1 ∧ ((k : Nat) : Int) = (j : Int) ∧ bstK t L s ts ks (k + 1) = some (getI ks j)) from .inr ⟨k, by omega, rfl, bstK_first HHB.out hb2⟩)
            clear hb2 hc hc1
            go_wp2
            go_quiet (first | fail)
            go_wp2
            go_roundw
            case rel => exact ⟨k + 1, _, ((k : Nat) : Int), by omega, by go_num, by go_num, HN.out, by rw [HW.out, World.drewN_drewN]⟩
            case measure => simp [intOf]; omega
          · subst hb1
            have c3 : wr.cell? ⟨b1, off1 + j, none⟩ = some (.int .i64 (getI ks j)) := by rw [HW.out]; exact hc1 j (by omega)
            obtain ⟨z, hzz⟩ : ∃ z, getI ks j = z := ⟨_, rfl⟩
            have HZZ := Lib.hid hzz
            have HKZ := Lib.hid (show keyB z = true by rw [← hzz]; exact keysB_at HKK.out (by rw [HZ1.out]; omega))
            rw [hzz] at c3 hb2
            have HB2 := Lib.hid hb2
            have hj0 : ¬ (j : Int) < 0 := by omega
            have hj0d : decide ((j : Int) < 0) = false := decide_eq_false hj0
            have hj1 : (j : Int) < (n1 : Int) := by omega
            have hj2 : (0 : Int) ≤ (j : Int) := by omega
            have HJ := Lib.hid hj
            obtain ⟨hy', hhy⟩ : ∃ u : Int, ((hashN y s : Nat) : Int) = u := ⟨_, rfl⟩
            obtain ⟨hz', hhz⟩ : ∃ u : Int, ((hashN z s : Nat) : Int) = u := ⟨_, rfl⟩
            have HHY := Lib.hid hhy
            have HHZ := Lib.hid hhz
            clear hc hc1 hzz hb2 hj hhy hhz
            by_cases g3 : hy' < hz'
            · have g3d : decide (hy' < hz') = true := decide_eq_true g3
              have HN := Lib.hid (show (((k : Nat) : Int) = -1 ∧ bstK t L s ts ks (k + 1) = none) ∨ (∃ j : Nat, j < k + 1 ∧ ((k : Nat) : Int) = (j : Int) ∧ bstK t L s ts ks (k + 1) = some (getI ks j)) from .inr ⟨k, by omega, rfl, bstK_less HHB.out HB2.out (by rw [HY.out]; have := HHY.out; have := HHZ.out; omega)⟩)
              go_wp2
              go_quiet (first | (go_at_call_of 67 (Value.int .i64 y); exact Calls.quiet_of_same (c_spec_l02Hash_is y s hy' _ HKY.out HSK.out HHY.out)) | (go_at_call_of 67 (Value.int .i64 z); exact Calls.quiet_of_same (c_spec_l02Hash_is z s hz' _ HKZ.out HSK.out HHZ.out)))
              go_wp2
              go_roundw
              case rel => exact ⟨k + 1, _, ((k : Nat) : Int), by omega, by go_num, by go_num, HN.out, by rw [HW.out, World.drewN_drewN]⟩
              case measure => simp [intOf]; omega
            · have g3d : decide (hy' < hz') = false := decide_eq_false g3
              have HN := Lib.hid (show (((j : Nat) : Int) = -1 ∧ bstK t L s ts ks (k + 1) = none) ∨ (∃ j2 : Nat, j2 < k + 1 ∧ ((j : Nat) : Int) = (j2 : Int) ∧ bstK t L s ts ks (k + 1) = some (getI ks j2)) from .inr ⟨j, by have := HJ.out; omega, rfl, by rw [HZZ.out]; exact bstK_keep HHB.out HB2.out (by rw [HY.out]; have := HHY.out; have := HHZ.out; omega)⟩)
              go_wp2
              go_quiet (first | (go_at_call_of 67 (Value.int .i64 y); exact Calls.quiet_of_same (c_spec_l02Hash_is y s hy' _ HKY.out HSK.out HHY.out)) | (go_at_call_of 67 (Value.int .i64 z); exact Calls.quiet_of_same (c_spec_l02Hash_is z s hz' _ HKZ.out HSK.out HHZ.out)))
              go_wp2
              go_roundw
              case rel => exact ⟨k + 1, _, ((j : Nat) : Int), by omega, by go_num, by go_num, HN.out, by rw [HW.out, World.drewN_drewN]⟩
              case measure => simp [intOf]; omega
        · have g2d : decide (x ≤ t) = false := decide_eq_false g2
          have g2' : t < x := by omega
          have HN := Lib.hid (show (bv = -1 ∧ bstK t L s ts ks (k + 1) = none) ∨ (∃ j : Nat, j < k + 1 ∧ bv = (j : Int) ∧ bstK t L s ts ks (k + 1) = some (getI ks j)) by rw [bstK_no (by rw [HX.out]; unfold hasB; rw [decide_eq_false g2, Bool.and_false])]; rcases HB.out with h | ⟨j, hj, h1, h2⟩; exact .inl h; exact .inr ⟨j, by omega, h1, h2⟩)
          clear hc hc1
          go_wp2
          go_quiet (first | fail)
          go_wp2
          go_roundw
          case rel => exact ⟨k + 1, _, bv, by omega, by go_num, by go_num, HN.out, by rw [HW.out, World.drewN_drewN]⟩
          case measure => simp [intOf]; omega
      · have g1d : decide (d < x) = false := decide_eq_false g1
        have g1' : x ≤ d := by omega
        have HN := Lib.hid (show (bv = -1 ∧ bstK t L s ts ks (k + 1) = none) ∨ (∃ j : Nat, j < k + 1 ∧ bv = (j : Int) ∧ bstK t L s ts ks (k + 1) = some (getI ks j)) by rw [bstK_no (by rw [HX.out]; unfold hasB; rw [HD.out, decide_eq_false g1, Bool.false_and])]; rcases HB.out with h | ⟨j, hj, h1, h2⟩; exact .inl h; exact .inr ⟨j, by omega, h1, h2⟩)
        clear hc hc1
        go_wp2
        go_quiet (first | fail)
        go_wp2
        go_roundw
        case rel => exact ⟨k + 1, _, bv, by omega, by go_num, by go_num, HN.out, by rw [HW.out, World.drewN_drewN]⟩
        case measure => simp [intOf]; omega
    · obtain rfl : k = n1 := by omega
      clear hlt
      rcases HB.out with ⟨hb1, hb2⟩ | ⟨j, hj, hb1, hb2⟩
      · subst hb1
        have hv2 := HV.out
        rw [hb2] at hv2
        have hv3 : ((0 : Int), false) = (v, b) := hv2
        simp only [Prod.mk.injEq] at hv3
        obtain ⟨rfl, rfl⟩ := hv3
        clear hb2 hv2 hwd
        go_wp2
        go_ret2
        exact ⟨rfl, by rw [HW.out]; exact Ext.drewN _ _⟩
      · subst hb1
        rcases HR1.out with h0 | ⟨b1, off1, rfl, hc1⟩
        · omega
        have c3 : wr.cell? ⟨b1, off1 + j, none⟩ = some (.int .i64 (getI ks j)) := by rw [HW.out]; exact hc1 j (by omega)
        have hv2 := HV.out
        rw [hb2] at hv2
        have hv3 : (getI ks j, true) = (v, b) := hv2
        simp only [Prod.mk.injEq] at hv3
        obtain ⟨hv4, rfl⟩ := hv3
        rw [hv4] at c3
        have hj0 : ¬ (j : Int) < 0 := by omega
        have hj1 : (j : Int) < (k : Int) := by omega
        clear hb2 hv2 hwd hc1 hv4
        go_wp2
        go_ret2
        exact ⟨rfl, by rw [HW.out]; exact Ext.drewN _ _⟩
theorem c_impl_LeastHash_wf (a : Option Addr) (n cap : Nat) (zs : List Int) (salt : Int) (w : World) {hh ii : Int} {b : Bool} (h1 : leastH zs salt = hh) (h2 : leastI zs salt = ii) (h3 : leastB zs salt = b) (hm : n ≤ maxLen) (h : Reads w a n (ints zs)) :
    Calls Try.prog 70 #[.slice a n cap, .int .i64 salt] w fun e w' => e = .returned (.tuple #[.int .i64 hh, .int .i64 ii, .bool b]) ∧ Ext w w' := by
  subst h1; subst h2; subst h3; exact c_impl_LeastHash a n cap zs salt w hm h
set_option maxHeartbeats 8000000 in
theorem c_impl_TimeSample (a0 : Option Addr) (n cap0 : Nat) (ts : List Int) (a1 : Option Addr) (n1 cap1 : Nat) (ks : List Int) (t L s : Int) (w : World) {v : Int} {b : Bool} (hv : tsR ts ks t L s = (v, b)) (hm : n ≤ 1048576) (h : Reads w a0 n (ints ts)) (hm1 : n1 ≤ 1048576) (h1 : Reads w a1 n1 (ints ks)) :
    Calls Try.prog 37 #[.slice a0 n cap0, .slice a1 n1 cap1, .int .i64 t, .int .i64 L, .int .i64 s] w fun e w' => e = .returned (.tuple #[.int .i64 v, .bool b]) ∧ Ext w w' := by
  have H := Lib.hid h
  have H1 := Lib.hid h1
  have HM := Lib.hid hm
  have HM1 := Lib.hid hm1
  have HMX := Lib.hid (show n1 ≤ maxLen by unfold maxLen; omega)
  obtain ⟨hz, hrd⟩ := h.int
  obtain ⟨hz1, hrd1⟩ := h1.int
  have HZ := Lib.hid hz
  have HZ1 := Lib.hid hz1
  have HR := Lib.hid hrd
  have HR1 := Lib.hid hrd1
  have hm' : (n : Int) ≤ 1048576 := by omega
  have hm1' : (n1 : Int) ≤ 1048576 := by omega
  obtain ⟨i0, hi, hi0, hi1, hi2⟩ := info_parts info_i64
  have BX := Lib.hid (Box.alloc w #[.int .i64 t, .int .i64 L] 74)
  have X0 := Lib.hid (Ext.alloc w (.cells #[.int .i64 t, .int .i64 L] 74))
  obtain ⟨b0, b1⟩ := BX.out.two
  clear h h1 hrd hrd1
  cases hs : spanB t L
  · have HS := Lib.hid hs
    have hno : tsB ts ks t L s = false := by
      unfold tsB; rw [hs]; simp
    rw [tsR_no hno] at hv
    clear hno
    simp only [Prod.mk.injEq] at hv
    obtain ⟨rfl, rfl⟩ := hv
    clear hz hz1 hs
    go_enter Try.func37, Try.ntmps37
    go_wp2_with fail
    clear b0 b1
    refine (c_impl_isSpan t L _ HS.out).mono ?_; rintro e w1 ⟨rfl, x1⟩
    have X1 := Lib.hid (X0.out.trans x1)
    have B1 := Lib.hid (BX.out.on x1)
    clear x1
    go_wp2
    go_ret2
    exact ⟨rfl, X1.out⟩
  have HS := Lib.hid hs
  cases ht : (decide (n ≤ 128) && timesB ts)
  · have HT := Lib.hid ht
    have hno : tsB ts ks t L s = false := by
      unfold tsB timesC; rw [hz]
      cases hq : decide (n ≤ 128)
      · simp
      · rw [hq] at ht; rw [show timesB ts = false from ht]; simp
    rw [tsR_no hno] at hv
    clear hno
    simp only [Prod.mk.injEq] at hv
    obtain ⟨rfl, rfl⟩ := hv
    clear hz hz1 hs ht
    go_enter Try.func37, Try.ntmps37
    go_wp2_with fail
    clear b0 b1
    refine (c_impl_isSpan t L _ HS.out).mono ?_; rintro e w1 ⟨rfl, x1⟩
    have X1 := Lib.hid (X0.out.trans x1)
    have B1 := Lib.hid (BX.out.on x1)
    clear x1
    go_wp2_with fail
    refine (c_impl_areTimes _ _ _ ts _ HT.out HM.out (H.out.on X1.out)).mono ?_; rintro e w2 ⟨rfl, q, rfl⟩
    go_wp2
    go_ret2
    exact ⟨rfl, X1.out.stepN _⟩
  have HT := Lib.hid ht
  rw [Bool.and_eq_true, decide_eq_true_eq] at ht
  by_cases hl : ¬ n1 = n
  · have e1 : ((n1 : Int) == (n : Int)) = false := by simp; omega
    have e2 : ((n1 : Int) != (n : Int)) = true := by simp; omega
    have hno : tsB ts ks t L s = false := by
      unfold tsB; rw [hz, hz1, decide_eq_false hl]; simp
    rw [tsR_no hno] at hv
    clear hno
    simp only [Prod.mk.injEq] at hv
    obtain ⟨rfl, rfl⟩ := hv
    clear hz hz1 hs ht hl
    go_enter Try.func37, Try.ntmps37
    go_wp2_with fail
    clear b0 b1
    refine (c_impl_isSpan t L _ HS.out).mono ?_; rintro e w1 ⟨rfl, x1⟩
    have X1 := Lib.hid (X0.out.trans x1)
    have B1 := Lib.hid (BX.out.on x1)
    clear x1
    go_wp2_with fail
    refine (c_impl_areTimes _ _ _ ts _ HT.out HM.out (H.out.on X1.out)).mono ?_; rintro e w2 ⟨rfl, q, rfl⟩
    go_wp2
    go_ret2
    exact ⟨rfl, X1.out.stepN _⟩
  obtain rfl : n1 = n := Classical.byContradiction hl
  have e1 : ((n1 : Int) == (n1 : Int)) = true := by simp
  have e2 : ((n1 : Int) != (n1 : Int)) = false := by simp
  cases hk : keysB ks
  · have HK := Lib.hid hk
    have hno : tsB ts ks t L s = false := by
      unfold tsB; rw [hk]; simp
    rw [tsR_no hno] at hv
    clear hno
    simp only [Prod.mk.injEq] at hv
    obtain ⟨rfl, rfl⟩ := hv
    clear hz hz1 hs ht hl hk
    go_enter Try.func37, Try.ntmps37
    go_wp2_with fail
    clear b0 b1
    refine (c_impl_isSpan t L _ HS.out).mono ?_; rintro e w1 ⟨rfl, x1⟩
    have X1 := Lib.hid (X0.out.trans x1)
    have B1 := Lib.hid (BX.out.on x1)
    clear x1
    go_wp2_with fail
    refine (c_impl_areTimes _ _ _ ts _ HT.out HM.out (H.out.on X1.out)).mono ?_; rintro e w2 ⟨rfl, q, rfl⟩
    go_wp2_with fail
    refine (c_impl_AreKeys_of _ _ _ ks _ HK.out HMX.out (H1.out.on (X1.out.stepN _))).mono ?_; rintro e w3 ⟨rfl, rfl⟩
    go_wp2
    go_ret2
    exact ⟨rfl, X1.out.stepN _⟩
  have HK := Lib.hid hk
  cases hsk : keyB s
  · have HSK := Lib.hid hsk
    have hno : tsB ts ks t L s = false := by
      unfold tsB; rw [hsk]; simp
    rw [tsR_no hno] at hv
    clear hno
    simp only [Prod.mk.injEq] at hv
    obtain ⟨rfl, rfl⟩ := hv
    clear hz hz1 hs ht hl hk hsk
    go_enter Try.func37, Try.ntmps37
    go_wp2_with fail
    clear b0 b1
    refine (c_impl_isSpan t L _ HS.out).mono ?_; rintro e w1 ⟨rfl, x1⟩
    have X1 := Lib.hid (X0.out.trans x1)
    have B1 := Lib.hid (BX.out.on x1)
    clear x1
    go_wp2_with fail
    refine (c_impl_areTimes _ _ _ ts _ HT.out HM.out (H.out.on X1.out)).mono ?_; rintro e w2 ⟨rfl, q, rfl⟩
    go_wp2_with fail
    refine (c_impl_AreKeys_of _ _ _ ks _ HK.out HMX.out (H1.out.on (X1.out.stepN _))).mono ?_; rintro e w3 ⟨rfl, rfl⟩
    go_wp2_with fail
    refine (c_impl_IsKey_at s _ HSK.out).mono ?_; rintro e w4 ⟨rfl, rfl⟩
    go_wp2
    go_ret2
    exact ⟨rfl, X1.out.stepN _⟩
  have HSK := Lib.hid hsk
  have HV := Lib.hid (show (if timesC ts then optR (bstK t L s ts ks n1) else (0, false)) = (v, b) by
    rw [← hv]; unfold tsR tsB; rw [hz1, hz, decide_eq_true rfl, hk, hs, hsk]
    cases timesC ts <;> rfl)
  have HTC := Lib.hid (show 1 ≤ n1 → timesC ts = true from fun h => by unfold timesC; rw [hz, decide_eq_true h, decide_eq_true ht.1, ht.2]; rfl)
  have HN8 := Lib.hid ht.1
  have hn8 : (n1 : Int) ≤ 128 := by have := ht.1; omega
  have hs2 : inB 0 t 1000000 = true ∧ inB 1 L 1000000 = true := by unfold spanB at hs; rwa [Bool.and_eq_true] at hs
  have HB1 := Lib.hid (inB_isW.1 hs2.1)
  have HB2 := Lib.hid (inB_isW.1 hs2.2)
  clear hz hz1 hs ht hl hk hsk hs2 hv
  go_enter Try.func37, Try.ntmps37
  go_wp2_with fail
  clear b0 b1
  refine (c_impl_isSpan t L _ HS.out).mono ?_; rintro e w1 ⟨rfl, x1⟩
  have X1 := Lib.hid (X0.out.trans x1)
  have B1 := Lib.hid (BX.out.on x1)
  clear x1
  go_wp2_with fail
  refine (c_impl_areTimes _ _ _ ts _ HT.out HM.out (H.out.on X1.out)).mono ?_; rintro e w2 ⟨rfl, q, rfl⟩
  go_wp2_with fail
  refine (c_impl_AreKeys_of _ _ _ ks _ HK.out HMX.out (H1.out.on (X1.out.stepN _))).mono ?_; rintro e w3 ⟨rfl, rfl⟩
  go_wp2_with fail
  refine (c_impl_IsKey_at s _ HSK.out).mono ?_; rintro e w4 ⟨rfl, rfl⟩
  obtain ⟨u, hu⟩ : ∃ u, w1.drewN q = u := ⟨_, rfl⟩
  have XU := Lib.hid (show Ext w u by rw [← hu]; exact X1.out.stepN _)
  have BU := Lib.hid (show Box u w.heap.size 74 #[.int .i64 t, .int .i64 L] by rw [← hu]; exact B1.out.on (Ext.drewN _ _))
  rw [hu]
  clear hu
  go_wp2_with fail
  go_loopw [13, 50] (fun f i wr => ∃ k : Nat, k ≤ n1 ∧ i = .int .i64 k ∧ wr.ownsRow u.heap.size 2 1 f (fndL t L ts ks k).length (ints (fndL t L ts ks k)) ∧ Ext u wr) (fun _ i _ => n1 - (intOf i).toNat)
  case atStart => exact ⟨0, Nat.zero_le _, rfl, World.ownsRow_made _ _ _ (Nat.le_refl _) (Nat.zero_le _) rfl, Ext.alloc _ _⟩
  case round =>
    obtain ⟨k, hk, rfl, hown, hext⟩ := hrel
    have HO := Lib.hid hown
    have HE := Lib.hid hext
    have XW := Lib.hid (show Ext w wr from XU.out.trans hext)
    have BW := Lib.hid (BU.out.on hext)
    clear hown hext
    by_cases hlt : k < n1
    · rcases HR.out with h0 | ⟨b0, off, rfl, hc⟩
      · omega
      rcases HR1.out with h0 | ⟨b1, off1, rfl, hc1⟩
      · omega
      have c1 : wr.cell? ⟨b0, off + k, none⟩ = some (.int .i64 (getI ts k)) := Ext.some XW.out (hc k hlt)
      have c2 : wr.cell? ⟨b1, off1 + k, none⟩ = some (.int .i64 (getI ks k)) := Ext.some XW.out (hc1 k hlt)
      have hfl := fndL_len t L ts ks k
      obtain ⟨F, hF⟩ : ∃ F, fndL t L ts ks k = F := ⟨_, rfl⟩
      obtain ⟨x, hx⟩ : ∃ x, getI ts k = x := ⟨_, rfl⟩
      obtain ⟨y, hy⟩ : ∃ y, getI ks k = y := ⟨_, rfl⟩
      have HF := Lib.hid hF
      have HX := Lib.hid hx
      have HY := Lib.hid hy
      rw [hF] at HO hfl
      rw [hx] at c1
      rw [hy] at c2
      have HFL := Lib.hid (show F.length ≤ 128 by have := HN8.out; omega)
      have hkn : (k : Int) < (n1 : Int) := by omega
      have C1 := Lib.hid c1
      have C2 := Lib.hid c2
      obtain ⟨f0, f1⟩ := BW.out.two
      clear hc hc1 hF hx hy hfl
      cases hb : hasB t L x
      · have HB := Lib.hid hb
        have HN := Lib.hid (show fndL t L ts ks (k + 1) = F by rw [fndL_no (by rw [HX.out]; exact hb)]; exact HF.out)
        clear hb
        go_upto_region 8 with fail
        first | (go_region_held3 (fun w' => w'.cell? ⟨w.heap.size, 0, none⟩ = some (.int .i64 t) ∧ w'.cell? ⟨w.heap.size, 1, none⟩ = some (.int .i64 L) ∧ w'.cell? ⟨b0, off + k, none⟩ = some (.int .i64 x)) (first | exact KA | go_keep) (first | (go_at_call 64; refine (c_impl_has t L x _ HB.out HB1.out.1 HB1.out.2 HB2.out.1 HB2.out.2).mono ?_; rintro e v1 ⟨rfl, x1⟩; have EA : Ext wr v1 := Ext.trans (by (repeat (first | assumption | exact Ext.refl _ | (with_reducible refine Ext.stepS ?_ (by first | exact Nat.le_refl _ | (simp; done) | (simp; omega)) _) | (with_reducible refine Ext.stepN ?_ _) | (with_reducible refine Ext.stepD ?_) | (with_reducible refine Ext.stepA ?_ _)))) x1; have K1 := (BW.out.on EA).two; have K2 := Ext.some EA C1.out; have KA := And.intro K1.1 (And.intro K1.2 K2); clear x1 K1 K2))) | fail
        all_goals
          go_wp2
          go_roundw
          case rel => exact ⟨k + 1, by omega, by go_num, by rw [HN.out]; exact ownsRow_on HO.out EA, HE.out.trans EA⟩
          case measure => simp [intOf]; omega
      · have HB := Lib.hid hb
        have HN := Lib.hid (show fndL t L ts ks (k + 1) = F ++ [y] by rw [fndL_yes (by rw [HX.out]; exact hb), HF.out, HY.out])
        clear hb
        go_upto_region 8 with fail
        first | (go_region_held3 (fun w' => w'.cell? ⟨w.heap.size, 0, none⟩ = some (.int .i64 t) ∧ w'.cell? ⟨w.heap.size, 1, none⟩ = some (.int .i64 L) ∧ w'.cell? ⟨b0, off + k, none⟩ = some (.int .i64 x)) (first | exact KA | go_keep) (first | (go_at_call 64; refine (c_impl_has t L x _ HB.out HB1.out.1 HB1.out.2 HB2.out.1 HB2.out.2).mono ?_; rintro e v1 ⟨rfl, x1⟩; have EA : Ext wr v1 := Ext.trans (by (repeat (first | assumption | exact Ext.refl _ | (with_reducible refine Ext.stepS ?_ (by first | exact Nat.le_refl _ | (simp; done) | (simp; omega)) _) | (with_reducible refine Ext.stepN ?_ _) | (with_reducible refine Ext.stepD ?_) | (with_reducible refine Ext.stepA ?_ _)))) x1; have K1 := (BW.out.on EA).two; have K2 := Ext.some EA C1.out; have KA := And.intro K1.1 (And.intro K1.2 K2); clear x1 K1 K2))) | fail
        all_goals
          have HO1 := Lib.hid (ownsRow_on HO.out EA)
          have HE1 := Lib.hid (HE.out.trans EA)
          go_wp2_with (at_builtin; refine wpList_append_own _ rfl _ _ 22 rfl u.heap.size 2 i0 (.int .i64 0) 1 8 Try.underlying22 hi hi0 hi1 hi2 rfl (by decide) _ _ _ rfl (HO1.out.alloc _) ⟨_, 0, none⟩ 1 1 [.int .i64 y] rfl rfl ?c1 ?c2 ?c3 ?c4 ?c5 ?_)
          case c1 => exact one_cell_at _ _ _
          case c2 => intro u hu; simp at hu; subst hu; rfl
          case c3 => have := HFL.out; unfold maxLen; omega
          case c4 => have := HFL.out; omega
          case c5 => have := HE1.out.size; simp; omega
          intro v' w9 hown' hgrow _
          have HO' := Lib.hid hown'
          have HE' := Lib.hid (app_step HE1.out HO1.out hgrow)
          clear hown' hgrow
          go_wp2
          go_roundw
          case rel => exact ⟨k + 1, by omega, by go_num, by rw [HN.out, List.length_append]; unfold ints; rw [List.map_append]; exact HO'.out, HE'.out⟩
          case measure => simp [intOf]; omega
    · obtain rfl : k = n1 := by omega
      obtain ⟨a', c', hv', ho⟩ := Own.of_row (e := 0) HO.out
      subst hv'
      have HRF := Lib.hid ho.reads
      have hbf := bst_fnd t L s ts ks k
      have hfl := fndL_len t L ts ks k
      have hkf : keysB (fndL t L ts ks k) = true := by
        rw [keysB_short (by have := HN8.out; omega), List.all_eq_true]
        exact fndL_keys (fun j hj => keysB_at HK.out (by rw [HZ1.out]; exact hj))
      obtain ⟨F, hF⟩ : ∃ F, fndL t L ts ks k = F := ⟨_, rfl⟩
      rw [hF] at hbf hfl hkf HRF
      rw [hF]
      have HFM := Lib.hid (show F.length ≤ maxLen by have := HN8.out; unfold maxLen; omega)
      clear ho hlt
      rcases hbf with ⟨h0, hb⟩ | ⟨h1, h2, hb⟩
      · have HLB := Lib.hid (leastB_3 (salt := s) h0)
        have HLH := Lib.hid (leastH_no HLB.out)
        have HLI := Lib.hid (leastI_no HLB.out)
        have hv2 : ((0 : Int), false) = (v, b) := by
          rw [← HV.out, hb]
          cases timesC ts <;> rfl
        simp only [Prod.mk.injEq] at hv2
        obtain ⟨rfl, rfl⟩ := hv2
        clear hb hkf hF hfl h0
        go_wp2_with fail
        refine (c_impl_LeastHash_wf _ _ _ F s _ HLH.out HLI.out HLB.out HFM.out HRF.out).mono ?_; rintro e w5 ⟨rfl, x5⟩
        have X5 := Lib.hid (XW.out.trans x5)
        clear x5
        go_wp2
        go_ret2
        exact ⟨rfl, X5.out⟩
      · have HLB := Lib.hid (leastB_mk hkf HSK.out h1)
        obtain ⟨p, hp⟩ : ∃ p, leastAt (hashAt F s) F.length = p := ⟨_, rfl⟩
        have HLI := Lib.hid (show leastI F s = ((p : Nat) : Int) by rw [leastI_yes HLB.out, hp])
        obtain ⟨lh, hlh⟩ : ∃ lh, leastH F s = lh := ⟨_, rfl⟩
        have HLH := Lib.hid hlh
        rw [hp] at h2 hb
        have hk1 : 1 ≤ k := by omega
        have hv2 : (getI F p, true) = (v, b) := by
          rw [← HV.out, hb, HTC.out hk1]; rfl
        simp only [Prod.mk.injEq] at hv2
        obtain ⟨hv3, rfl⟩ := hv2
        have HV3 := Lib.hid hv3
        have HP := Lib.hid h2
        have hpf : (p : Int) < (F.length : Int) := by omega
        obtain ⟨_, hrow⟩ := HRF.out.int
        rcases hrow with h0 | ⟨gb, go, rfl, hcell⟩
        · omega
        have HCE := Lib.hid (show wr.cell? ⟨gb, go + p, none⟩ = some (.int .i64 v) by rw [← HV3.out]; exact hcell p HP.out)
        clear hb hkf hF hfl h1 h2 hp hlh hv3 hcell hk1
        go_wp2_with fail
        refine (c_impl_LeastHash_wf _ _ _ F s _ HLH.out HLI.out HLB.out HFM.out HRF.out).mono ?_; rintro e w5 ⟨rfl, x5⟩
        have X5 := Lib.hid (XW.out.trans x5)
        have c9 := Ext.some x5 HCE.out
        clear x5
        go_wp2
        go_ret2
        exact ⟨rfl, X5.out⟩
end Go.Proofs.Ytmlnnnagbkknhaa
