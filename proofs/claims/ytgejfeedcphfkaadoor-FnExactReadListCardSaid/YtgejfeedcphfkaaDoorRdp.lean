/- ReadDecimal: plain facts: reading gives back what the numeral was made of. No program. -/
import Derived.Test.YtgejfeedcphfkaaDoorLtx
import Derived.Lib.ParseIntBCases
namespace Go.Proofs.YtgejfeedcphfkaaDoor
set_option linter.unusedVariables false
theorem digit_nat (d : Nat) (h : d < 10) : (UInt8.ofNat (48 + d)).toNat = 48 + d := by simp; omega
theorem parseM_step (M acc d : Nat) (r : List UInt8) (hd : d < 10) (h1 : acc < 1844674407370955162) (h2 : acc * 10 + d ≤ M) :
    Lib.parseUintM M acc (UInt8.ofNat (48 + d) :: r) = Lib.parseUintM M (acc * 10 + d) r := by
  rw [Lib.parseUintM, digit_nat d hd, if_pos (by omega), if_neg (by omega), if_neg (by omega)]
  congr 1
  omega
theorem parseM_dec (M : Nat) (u : Nat) : ∀ (r : List UInt8), u ≤ M → u < 1844674407370955162 → Lib.parseUintM M 0 (Lib.decDigits u ++ r) = Lib.parseUintM M u r := by
  induction u using Nat.strongRecOn with
  | ind u ih =>
    intro r h1 h2
    by_cases hu : u < 10
    · rw [Lib.decDigits_one hu, List.singleton_append, parseM_step M 0 u r hu (by omega) (by omega)]
      congr 1; omega
    · rw [decDigits_big hu, List.append_assoc, ih (u / 10) (by omega) _ (by omega) (by omega), List.singleton_append, parseM_step M (u / 10) (u % 10) r (by omega) (by omega) (by omega)]
      congr 1; omega
theorem parseB_dec (u : Nat) (h : u ≤ 1000000000000000) : Lib.parseUintB 64 (Lib.decDigits u) = .ok u := by
  unfold Lib.parseUintB
  have hne : Lib.decDigits u ≠ [] := by
    intro h0
    have := Lib.decDigits_length u
    rw [h0] at this
    have h1 : 1 ≤ Lib.nDigits u := by rw [Lib.nDigits]; split <;> omega
    simp at this; omega
  rw [if_neg hne]
  have := parseM_dec (2 ^ 64 - 1) u [] (by omega) (by omega)
  rw [List.append_nil] at this
  rw [this]; rfl
theorem dec_head (u : Nat) : ∃ c r, Lib.decDigits u = c :: r ∧ 48 ≤ c.toNat ∧ c.toNat ≤ 57 := by
  induction u using Nat.strongRecOn with
  | ind u ih =>
    by_cases hu : u < 10
    · exact ⟨_, [], Lib.decDigits_one hu, by rw [digit_nat u hu]; omega, by rw [digit_nat u hu]; omega⟩
    · obtain ⟨c, r, e, h1, h2⟩ := ih (u / 10) (by omega)
      exact ⟨c, r ++ [UInt8.ofNat (48 + u % 10)], by rw [decDigits_big hu, e]; rfl, h1, h2⟩
theorem parse_itoa (v : Int) (h : valB v = true) : Lib.parseIntB 64 (Lib.itoa v) = .ok v := by
  obtain ⟨h1, h2⟩ := valB_of h
  by_cases hn : v < 0
  · obtain ⟨u, rfl⟩ : ∃ u : Nat, v = -(u : Int) := ⟨v.natAbs, by omega⟩
    have hu : Lib.itoa (-(u : Int)) = 45 :: Lib.decDigits u := by unfold Lib.itoa; rw [if_pos hn]; simp
    rw [hu]
    have e45 : (45 : UInt8).toNat = 45 := rfl
    simp only [Lib.parseIntB, e45]
    rw [if_pos (Or.inr trivial), parseB_dec u (by omega)]
    simp
    omega
  · obtain ⟨u, rfl⟩ : ∃ u : Nat, v = (u : Int) := ⟨v.toNat, by omega⟩
    have hu : Lib.itoa (u : Int) = Lib.decDigits u := by unfold Lib.itoa; rw [if_neg hn]; simp
    rw [hu]
    have hp := parseB_dec u (by omega)
    obtain ⟨c, r, e, h3, h4⟩ := dec_head u
    rw [e] at hp ⊢
    simp only [Lib.parseIntB]
    rw [if_neg (by omega), hp]
    simp
    rw [if_neg (by omega), if_neg (by omega), if_neg (by omega)]
/-- what the other side's loop makes of a text: the digits alone -/
def digN (n : Nat) (c : UInt8) : Nat := if 48 ≤ c.toNat ∧ c.toNat ≤ 57 then 10 * n + (c.toNat - 48) else n
def specN (l : List UInt8) : Nat := l.foldl digN 0
theorem specN_dec (u : Nat) : specN (Lib.decDigits u) = u := by
  induction u using Nat.strongRecOn with
  | ind u ih =>
    by_cases hu : u < 10
    · rw [Lib.decDigits_one hu]
      unfold specN
      rw [List.foldl_cons, List.foldl_nil]
      unfold digN
      rw [digit_nat u hu, if_pos (by omega)]; omega
    · rw [decDigits_big hu]
      unfold specN
      rw [List.foldl_append, List.foldl_cons, List.foldl_nil]
      have := ih (u / 10) (by omega)
      unfold specN at this
      rw [this]
      unfold digN
      rw [digit_nat (u % 10) (by omega), if_pos (by omega)]; omega
def specV (l : List UInt8) : Int := if l.head? = some 45 then -((specN l : Nat) : Int) else ((specN l : Nat) : Int)
theorem specV_itoa (v : Int) : specV (Lib.itoa v) = v := by
  by_cases hn : v < 0
  · obtain ⟨u, rfl⟩ : ∃ u : Nat, v = -(u : Int) := ⟨v.natAbs, by omega⟩
    have hu : Lib.itoa (-(u : Int)) = 45 :: Lib.decDigits u := by unfold Lib.itoa; rw [if_pos hn]; simp
    rw [hu]
    unfold specV
    rw [if_pos (show (45 :: Lib.decDigits u).head? = some 45 from rfl)]
    have e : specN (45 :: Lib.decDigits u) = specN (Lib.decDigits u) := rfl
    rw [e, specN_dec]
  · obtain ⟨u, rfl⟩ : ∃ u : Nat, v = (u : Int) := ⟨v.toNat, by omega⟩
    have hu : Lib.itoa (u : Int) = Lib.decDigits u := by unfold Lib.itoa; rw [if_neg hn]; simp
    rw [hu]
    unfold specV
    obtain ⟨c, r, e, h3, h4⟩ := dec_head u
    have hh : ¬ (Lib.decDigits u).head? = some 45 := by
      rw [e]
      intro h
      simp at h
      subst h
      revert h3; decide
    rw [if_neg hh, specN_dec]
theorem nDigits_16 (u : Nat) (h : u ≤ 1000000000000000) : Lib.nDigits u ≤ 16 := by
  have key : ∀ (k u : Nat), u < 10 ^ k → 1 ≤ k → Lib.nDigits u ≤ k := by
    intro k
    induction k with
    | zero => intro u _ h; omega
    | succ k ih =>
      intro u hu _
      by_cases h10 : u < 10
      · rw [Lib.nDigits_small h10]; omega
      · rw [Lib.nDigits_big h10]
        have hk : 1 ≤ k := by
          rcases Nat.eq_zero_or_pos k with rfl | h
          · simp at hu; omega
          · exact h
        have := ih (u / 10) (by rw [Nat.pow_succ] at hu; omega) hk
        omega
  exact key 16 u (by omega) (by omega)
theorem itoa_17 (v : Int) (h : valB v = true) : 1 ≤ (Lib.itoa v).length ∧ (Lib.itoa v).length ≤ 17 := by
  obtain ⟨h1, h2⟩ := valB_of h
  have p : ∀ u, 1 ≤ Lib.nDigits u := fun u => by rw [Lib.nDigits]; split <;> omega
  unfold Lib.itoa
  split
  · rw [List.length_cons, Lib.decDigits_length]
    have := nDigits_16 v.natAbs (by omega)
    omega
  · rw [Lib.decDigits_length]
    have := nDigits_16 v.toNat (by omega)
    have := p v.toNat
    omega
/-- the number with a text, if there is one -/
def readB (s : ByteArray) : Bool := decide (1 ≤ s.size ∧ s.size ≤ 17) && (valB (specV s.data.toList) && decide (decT (specV s.data.toList) = s))
def readV (s : ByteArray) : Int := if readB s then specV s.data.toList else 0
theorem decT_data (v : Int) : (decT v).data.toList = Lib.itoa v := rfl
theorem decT_size (v : Int) : (decT v).size = (Lib.itoa v).length := by
  show (Lib.itoa v).toArray.size = _
  simp
theorem readB_dec (v : Int) (h : valB v = true) : readB (decT v) = true ∧ readV (decT v) = v := by
  have h1 := itoa_17 v h
  have e : specV (decT v).data.toList = v := by rw [decT_data]; exact specV_itoa v
  have hb : readB (decT v) = true := by
    unfold readB
    rw [e, h, decT_size, decide_eq_true h1, decide_eq_true rfl]; rfl
  refine ⟨hb, ?_⟩
  unfold readV
  rw [hb, if_pos rfl, e]
theorem readB_yes {s : ByteArray} (h : readB s = true) : valB (readV s) = true ∧ decT (readV s) = s ∧ readV s = specV s.data.toList := by
  have hv : readV s = specV s.data.toList := by unfold readV; rw [h, if_pos rfl]
  unfold readB at h
  simp only [Bool.and_eq_true, decide_eq_true_eq] at h
  rw [hv]
  exact ⟨h.2.1, h.2.2, rfl⟩
theorem readB_parse {s : ByteArray} (h : readB s = true) : Lib.parseIntB 64 s.data.toList = .ok (readV s) := by
  obtain ⟨h1, h2, _⟩ := readB_yes h
  have := parse_itoa (readV s) h1
  rw [← decT_data, h2] at this
  exact this
theorem readB_no {s : ByteArray} {v : Int} (h : readB s = false) (hv : valB v = true) : decT v ≠ s := by
  intro e
  have := (readB_dec v hv).1
  rw [e, h] at this
  cases this
end Go.Proofs.YtgejfeedcphfkaaDoor
