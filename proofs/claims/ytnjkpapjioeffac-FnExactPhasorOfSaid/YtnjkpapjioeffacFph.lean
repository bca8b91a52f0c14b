/- Phasors, plainly: how often a quarter can be taken away; what is left is near 0. -/
import Derived.Test.YtnjkpapjioeffacFtn
namespace Go.Proofs.Ytnjkpapjioeffac
open Go Go.RowKit Go.Proofs.Ytnjkpapjioeffac.Flo
set_option linter.unusedVariables false

theorem quart_num : FloatKind.f64.decode 4598175219545276416 = .number false 4503599627370496 (-54) := rfl
theorem quart_some : cQuarter = some 4598175219545276416 := by kernel_rfl
theorem bs_quart : Bs cQuarter (-2) := Bs.const (s := false) (m := 4503599627370496) (e := -54) rfl (.inr ⟨by omega, by decide +kernel⟩)
theorem bs_zero : Bs cZero 0 := Bs.const (s := false) (m := 0) (e := -1074) rfl (.inl rfl)
theorem Bs.sub {x y : Option Nat} {c : Int} (h : Bs x c) (h' : Bs y c) (h1 : -1023 ≤ c) (h2 : c ≤ 1022) : Bs (fop .sub .f64 x y) (c + 1) := by
  refine ⟨Bd.sub h.1 h'.1 h1 h2, ?_⟩
  obtain ⟨b, s, m, e, rfl, d, _⟩ := h.ex
  obtain ⟨c, s', n, j, rfl, d', _⟩ := h'.ex
  have e : fop .sub .f64 (some b) (some c) = ((FloatKind.f64.decode b).sum (FloatKind.f64.decode c).opposite).map FloatKind.f64.format.write := rfl
  rw [e, d, d']; rfl

/-- is it 0.25 or more? -/
def geQ (v : Option Nat) : Bool := ford .f64 v cQuarter == some .gt || ford .f64 v cQuarter == some .eq
theorem geQ_iff (r : Nat) : (FloatKind.f64.format.order r 4598175219545276416 == some .gt || FloatKind.f64.format.order r 4598175219545276416 == some .eq) = geQ (fv .f64 r) := by
  rw [order_ford]; rfl
/-- quarters taken away -/
def lessQ (v : Option Nat) : Nat → Option Nat
  | 0 => v
  | j + 1 => fop .sub .f64 (lessQ v j) cQuarter

theorem geQ_wd {m : Nat} {k : Int} (h1 : 4503599627370496 ≤ m) (h2 : m < 9007199254740992) (hk : -1074 ≤ k) (hk' : k ≤ 900) : geQ (some (wd m k)) = decide (-54 ≤ k) := by
  have hv := fv_wd h1 h2 hk hk'
  rw [← hv, ← geQ_iff]
  have ho : FloatKind.f64.format.order (wd m k) 4598175219545276416 = (FloatKind.f64.decode (wd m k)).order (FloatKind.f64.decode 4598175219545276416) := rfl
  rw [ho, decode_wd h1 h2 hk hk', quart_num]
  simp only [Ieee.Datum.order]
  rw [cmp_wd h1 h2 (by omega) (by omega)]
  by_cases a : k < -54
  · rw [if_pos (.inl a), decide_eq_false (by omega)]; rfl
  · rw [if_neg (by omega), decide_eq_true (by omega)]
    by_cases b : k = -54 ∧ m = 4503599627370496
    · rw [if_pos b]; rfl
    · rw [if_neg b]; rfl
/-- a small whole number of units, rounded, is itself -/
theorem near_small {q : Nat} (h0 : q ≠ 0) (hq : q < 9007199254740992) : ∃ M k, 4503599627370496 ≤ M ∧ M < 9007199254740992 ∧ k = -54 - ((52 - q.log2 : Nat) : Int) ∧ q.log2 ≤ 52 ∧ Ieee.double.nearest false q (-54) = wd M k := by
  have hl : q.log2 < 53 := (Nat.log2_lt h0).2 hq
  obtain ⟨b1, b2⟩ := shl_bounds h0 (n := 52) (by omega)
  refine ⟨q * 2 ^ (52 - q.log2), -54 - ((52 - q.log2 : Nat) : Int), b1, b2, rfl, by omega, ?_⟩
  rw [nearest_rung Ieee.double false (-54) h0]
  have hr : rungOf Ieee.double false q (-54) = wd (q * 2 ^ (52 - q.log2)) (-54 - ((52 - q.log2 : Nat) : Int)) := by
    unfold rungOf wd
    simp only [double_least, double_bin]
    have hlast : max (-54 + (q.log2 : Int) - (Ieee.double.fractionBits : Int)) (-1074) = (q.log2 : Int) - 106 := by
      show max (-54 + (q.log2 : Int) - 52) (-1074) = _
      omega
    rw [hlast]
    have e1 : (-54 - ((q.log2 : Int) - 106)).toNat = 52 - q.log2 := by omega
    have e2 : ((q.log2 : Int) - 106 - -54).toNat = 0 := by omega
    have e3 : ((q.log2 : Int) - 106 - (-1074)).toNat = (-54 - ((52 - q.log2 : Nat) : Int) + 1074).toNat := by omega
    rw [e1, e2, e3, cut_zero, Nat.shiftLeft_eq]
  rw [hr]
  have b1' : 4503599627370496 ≤ q * 2 ^ (52 - q.log2) := b1
  have b2' : q * 2 ^ (52 - q.log2) < 9007199254740992 := b2
  rw [Nat.min_eq_left (Nat.le_of_lt (wd_word b1' b2' (by omega) (by omega)).1)]
  rfl
/-- what is left: less than a quarter, or a number again -/
theorem sub_quart {M : Nat} {k : Int} (h1 : 4503599627370496 ≤ M) (h2 : M < 9007199254740992) (hk : -54 ≤ k) (hk' : k ≤ -51) :
    fop .sub .f64 (some (wd M k)) cQuarter = some (Ieee.double.nearest false (M * 2 ^ (k + 54).toNat - 4503599627370496) (-54)) := by
  have e : fop .sub .f64 (some (wd M k)) (some 4598175219545276416) = ((FloatKind.f64.decode (wd M k)).sum (FloatKind.f64.decode 4598175219545276416).opposite).map FloatKind.f64.format.write := rfl
  rw [quart_some, e, decode_wd h1 h2 (by omega) (by omega), quart_num]
  have e2 : (Ieee.Datum.number false 4503599627370496 (-54)).opposite = .number true 4503599627370496 (-54) := rfl
  rw [e2]
  have hb : min k (-54) = -54 := by omega
  have hp : 1 ≤ 2 ^ (k + 54).toNat := Nat.two_pow_pos _
  have hge : 4503599627370496 ≤ M * 2 ^ (k + 54).toNat := Nat.le_trans h1 (Nat.le_mul_of_pos_right _ hp)
  unfold Ieee.Datum.sum
  simp only [hb]
  have s1 : Ieee.signed false M (k - -54).toNat = ((M * 2 ^ (k + 54).toNat : Nat) : Int) := by
    unfold Ieee.signed; rw [Nat.shiftLeft_eq]
    have : (k - -54).toNat = (k + 54).toNat := by omega
    rw [this]; rfl
  have s2 : Ieee.signed true 4503599627370496 ((-54 : Int) - -54).toNat = -4503599627370496 := rfl
  rw [s1, s2]
  generalize M * 2 ^ (k + 54).toNat = T at *
  by_cases ht : T = 4503599627370496
  · subst ht
    rfl
  · have n1 : ¬ ((T : Int) + -4503599627370496 = 0) := by omega
    have n2 : decide ((T : Int) + -4503599627370496 < 0) = false := decide_eq_false (by omega)
    have n3 : ((T : Int) + -4503599627370496).natAbs = T - 4503599627370496 := by omega
    rw [if_neg n1, n2, n3]
    rfl
theorem geQ_zero : geQ (some (Ieee.double.nearest false 0 (-54))) = false := by kernel_rfl
theorem rounds_54 {M : Nat} (h1 : 4503599627370496 ≤ M) (h2 : M < 9007199254740992) : geQ (fop .sub .f64 (some (wd M (-54))) cQuarter) = false := by
  rw [sub_quart h1 h2 (by omega) (by omega)]
  have e : ((-54 : Int) + 54).toNat = 0 := rfl
  rw [e, Nat.pow_zero, Nat.mul_one]
  by_cases h0 : M - 4503599627370496 = 0
  · rw [h0]; exact geQ_zero
  · obtain ⟨M', k', g1, g2, g3, g4, g5⟩ := near_small h0 (by omega)
    rw [g5, geQ_wd g1 g2 (by omega) (by omega), decide_eq_false]
    have : (M - 4503599627370496).log2 < 52 := (Nat.log2_lt h0).2 (by have : 2 ^ 52 = 4503599627370496 := rfl; omega)
    omega
set_option maxRecDepth 20000 in
/-- the next number: where it lies, and that it is a quarter less (in units of 2 ^ -54) -/
theorem next_q {M : Nat} {k : Int} (h1 : 4503599627370496 ≤ M) (h2 : M < 9007199254740992) (hk : k = -53 ∨ k = -52 ∨ (k = -51 ∧ M = 4503599627370496)) :
    ∃ M' k', fop .sub .f64 (some (wd M k)) cQuarter = some (wd M' k') ∧ 4503599627370496 ≤ M' ∧ M' < 9007199254740992 ∧ -54 ≤ k' ∧ k' ≤ -52 ∧ M' * 2 ^ (k' + 54).toNat + 4503599627370496 = M * 2 ^ (k + 54).toNat := by
  have hs := sub_quart h1 h2 (k := k) (by omega) (by omega)
  generalize hT : M * 2 ^ (k + 54).toNat = T at *
  have hcase : (T - 4503599627370496 < 9007199254740992 ∧ 9007199254740992 ≤ T) ∨ (∃ A, T - 4503599627370496 = A * 2 ^ 1 ∧ 4503599627370496 ≤ A ∧ A < 9007199254740992) ∨ (∃ A, T - 4503599627370496 = A * 2 ^ 2 ∧ 4503599627370496 ≤ A ∧ A < 9007199254740992) := by
    rcases hk with rfl | rfl | ⟨rfl, rfl⟩
    · have e : ((-53 : Int) + 54).toNat = 1 := rfl
      rw [e] at hT
      have p1 : (2 : Nat) ^ 1 = 2 := rfl
      rw [p1] at hT
      by_cases c : T - 4503599627370496 < 9007199254740992
      · exact .inl ⟨c, by omega⟩
      · exact .inr (.inl ⟨M - 2251799813685248, by omega, by omega, by omega⟩)
    · have e : ((-52 : Int) + 54).toNat = 2 := rfl
      rw [e] at hT
      have p1 : (2 : Nat) ^ 1 = 2 := rfl
      have p2 : (2 : Nat) ^ 2 = 4 := rfl
      rw [p2] at hT
      by_cases c : T - 4503599627370496 < 18014398509481984
      · obtain ⟨A, hA⟩ : ∃ A, A = 2 * M - 2251799813685248 := ⟨_, rfl⟩
        have q1 : T - 4503599627370496 = A * 2 ^ 1 := by rw [p1]; clear c; omega
        have q2 : 4503599627370496 ≤ A := by clear c hT q1; omega
        have q3 : A < 9007199254740992 := by rw [p1] at q1; clear hA hT h1 h2; omega
        exact .inr (.inl ⟨A, q1, q2, q3⟩)
      · exact .inr (.inr ⟨M - 1125899906842624, by omega, by omega, by omega⟩)
    · have e : ((-51 : Int) + 54).toNat = 3 := rfl
      rw [e] at hT
      have p2 : (2 : Nat) ^ 2 = 4 := rfl
      have p3 : (2 : Nat) ^ 3 = 8 := rfl
      rw [p3] at hT
      have hm : (7881299347898368 : Nat) * 2 ^ 2 = 31525197391593472 := rfl
      have h8 : T - 4503599627370496 = 31525197391593472 := by omega
      exact .inr (.inr ⟨7881299347898368, h8.trans hm.symm, by decide +kernel, by decide +kernel⟩)
  have hT9 : 9007199254740992 ≤ T := by
    rcases hk with rfl | rfl | ⟨rfl, rfl⟩
    · have e : ((-53 : Int) + 54).toNat = 1 := rfl
      rw [e] at hT; omega
    · have e : ((-52 : Int) + 54).toNat = 2 := rfl
      rw [e] at hT; omega
    · have e : ((-51 : Int) + 54).toNat = 3 := rfl
      rw [e] at hT; omega
  rw [hs]
  rcases hcase with ⟨c1, c2⟩ | ⟨A, c1, c2, c3⟩ | ⟨A, c1, c2, c3⟩
  · obtain ⟨M', k', g1, g2, g3, g4, g5⟩ := near_small (q := T - 4503599627370496) (by omega) c1
    have hl : 52 ≤ (T - 4503599627370496).log2 := (Nat.le_log2 (by omega)).2 (by have : 2 ^ 52 = 4503599627370496 := rfl; omega)
    have hw := near_wd (m := T - 4503599627370496) (c := 0) (k := -54) (p := -54) (by omega) c1 (by omega) (by omega) (by omega)
    rw [Nat.pow_zero, Nat.mul_one] at hw
    refine ⟨T - 4503599627370496, -54, by rw [hw], by omega, c1, by omega, by omega, ?_⟩
    have e : ((-54 : Int) + 54).toNat = 0 := rfl
    rw [e, Nat.pow_zero, Nat.mul_one]; omega
  · have hw := near_wd (m := A) (c := 1) (k := -53) (p := -54) c2 c3 (by omega) (by omega) (by omega)
    refine ⟨A, -53, by rw [c1, hw], c2, c3, by omega, by omega, ?_⟩
    have e : ((-53 : Int) + 54).toNat = 1 := rfl
    rw [e]; omega
  · have hw := near_wd (m := A) (c := 2) (k := -52) (p := -54) c2 c3 (by omega) (by omega) (by omega)
    refine ⟨A, -52, by rw [c1, hw], c2, c3, by omega, by omega, ?_⟩
    have e : ((-52 : Int) + 54).toNat = 2 := rfl
    rw [e]; omega
theorem lessQ_succ (v : Option Nat) (j : Nat) : lessQ v (j + 1) = lessQ (fop .sub .f64 v cQuarter) j := by
  induction j with
  | zero => rfl
  | succ j ih =>
    show fop .sub .f64 (lessQ v (j + 1)) cQuarter = fop .sub .f64 (lessQ (fop .sub .f64 v cQuarter) j) cQuarter
    rw [ih]
/-- after some rounds less than a quarter is left -/
theorem rounds_wd : ∀ (n : Nat) {M : Nat} {k : Int}, 4503599627370496 ≤ M → M < 9007199254740992 → -54 ≤ k → (k ≤ -52 ∨ (k = -51 ∧ M = 4503599627370496)) → M * 2 ^ (k + 54).toNat < (n + 1) * 4503599627370496 →
    ∃ q, q ≤ n ∧ (∀ j, j < q → geQ (lessQ (some (wd M k)) j) = true) ∧ geQ (lessQ (some (wd M k)) q) = false
  | 0, M, k, h1, h2, hk, hk', hn => by
    have hp : 1 ≤ 2 ^ (k + 54).toNat := Nat.two_pow_pos _
    have := Nat.le_mul_of_pos_right M hp
    omega
  | n + 1, M, k, h1, h2, hk, hk', hn => by
    have g0 : geQ (some (wd M k)) = true := by rw [geQ_wd h1 h2 (by omega) (by omega), decide_eq_true hk]
    by_cases c : k = -54
    · subst c
      refine ⟨1, by omega, fun j hj => ?_, ?_⟩
      · obtain rfl : j = 0 := by omega
        exact g0
      · exact rounds_54 h1 h2
    · obtain ⟨M', k', a1, a2, a3, a4, a5, a6⟩ := next_q h1 h2 (k := k) (by omega)
      obtain ⟨q, b1, b2, b3⟩ := rounds_wd n a2 a3 a4 (.inl a5) (by omega)
      refine ⟨q + 1, by omega, fun j hj => ?_, ?_⟩
      · cases j with
        | zero => exact g0
        | succ j => rw [lessQ_succ, a1]; exact b2 j (by omega)
      · rw [lessQ_succ, a1]; exact b3

theorem geQ_decode {b c : Nat} (h : FloatKind.f64.decode b = FloatKind.f64.decode c) (hb : (FloatKind.f64.decode c).isNaN = false) : geQ (some b) = geQ (some c) := by
  have h1 : fv .f64 b = some b := fv_some (by rw [h]; exact hb)
  have h2 : fv .f64 c = some c := fv_some hb
  rw [← h1, ← h2, ← geQ_iff, ← geQ_iff]
  have o1 : FloatKind.f64.format.order b 4598175219545276416 = (FloatKind.f64.decode b).order (FloatKind.f64.decode 4598175219545276416) := rfl
  have o2 : FloatKind.f64.format.order c 4598175219545276416 = (FloatKind.f64.decode c).order (FloatKind.f64.decode 4598175219545276416) := rfl
  rw [o1, o2, h]
theorem sub_decode {b c : Nat} (h : FloatKind.f64.decode b = FloatKind.f64.decode c) : fop .sub .f64 (some b) cQuarter = fop .sub .f64 (some c) cQuarter := by
  have e1 : fop .sub .f64 (some b) (some 4598175219545276416) = ((FloatKind.f64.decode b).sum (FloatKind.f64.decode 4598175219545276416).opposite).map FloatKind.f64.format.write := rfl
  have e2 : fop .sub .f64 (some c) (some 4598175219545276416) = ((FloatKind.f64.decode c).sum (FloatKind.f64.decode 4598175219545276416).opposite).map FloatKind.f64.format.write := rfl
  rw [quart_some, e1, e2, h]
theorem decode64_shape {b : Nat} {s : Bool} {m : Nat} {e : Int} (h : FloatKind.f64.decode b = .number s m e) : 4503599627370496 ≤ m ∨ e = -1074 := by
  have h : Ieee.double.read b = .number s m e := h
  unfold Ieee.Format.read at h
  simp only at h
  by_cases h1 : b % Ieee.double.signWeight < Ieee.double.binade
  · rw [if_pos h1] at h
    obtain ⟨_, h3, h4⟩ := Ieee.Datum.number.inj h
    right; rw [← h4]; rfl
  · rw [if_neg h1] at h
    by_cases h2 : b % Ieee.double.signWeight < Ieee.double.infRung
    · rw [if_pos h2] at h
      obtain ⟨_, h3, h4⟩ := Ieee.Datum.number.inj h
      left; rw [← h3, double_bin]; exact Nat.le_add_right _ _
    · rw [if_neg h2] at h; split at h <;> cases h
/-- a number of at least a quarter is one of 53 digits -/
theorem ge_norm {b : Nat} {s : Bool} {m : Nat} {e : Int} (hd : FloatKind.f64.decode b = .number s m e) (hb : bd m e 1) (hg : geQ (some b) = true) :
    s = false ∧ 4503599627370496 ≤ m ∧ m < 9007199254740992 ∧ -54 ≤ e ∧ (e ≤ -52 ∨ (e = -51 ∧ m = 4503599627370496)) := by
  rw [← fv_num hd, ← geQ_iff] at hg
  have ho : FloatKind.f64.format.order b 4598175219545276416 = (FloatKind.f64.decode b).order (FloatKind.f64.decode 4598175219545276416) := rfl
  rw [ho, hd, quart_num] at hg
  simp only [Ieee.Datum.order] at hg
  have hp := Nat.two_pow_pos (-54 - min e (-54)).toNat
  have s2 : Ieee.signed false 4503599627370496 (-54 - min e (-54)).toNat = ((4503599627370496 * 2 ^ (-54 - min e (-54)).toNat : Nat) : Int) := by unfold Ieee.signed; rw [Nat.shiftLeft_eq]; rfl
  have hpos : 0 < 4503599627370496 * 2 ^ (-54 - min e (-54)).toNat := Nat.mul_pos (by omega) hp
  have hs : s = false := by
    cases s with
    | false => rfl
    | true =>
      exfalso
      have s1 : Ieee.signed true m (e - min e (-54)).toNat = -((m * 2 ^ (e - min e (-54)).toNat : Nat) : Int) := by unfold Ieee.signed; rw [Nat.shiftLeft_eq]; rfl
      rw [s1, s2, cmp_lt (by omega)] at hg
      cases hg
  subst hs
  have s1 : Ieee.signed false m (e - min e (-54)).toNat = ((m * 2 ^ (e - min e (-54)).toNat : Nat) : Int) := by unfold Ieee.signed; rw [Nat.shiftLeft_eq]; rfl
  have hge : 4503599627370496 * 2 ^ (-54 - min e (-54)).toNat ≤ m * 2 ^ (e - min e (-54)).toNat := by
    rcases Nat.lt_or_ge (m * 2 ^ (e - min e (-54)).toNat) (4503599627370496 * 2 ^ (-54 - min e (-54)).toNat) with h | h
    · rw [s1, s2, cmp_lt (by omega)] at hg; cases hg
    · exact h
  have hD := decode64_number hd
  obtain ⟨hm53, hshape⟩ : m < 9007199254740992 ∧ (4503599627370496 ≤ m ∨ e = -1074) := ⟨hD.1, decode64_shape hd⟩
  have he : -54 ≤ e := by
    rcases Int.lt_or_le e (-54) with h | h
    · exfalso
      have e1 : min e (-54) = e := by omega
      rw [e1] at hge
      have e2 : (e - e).toNat = 0 := by omega
      rw [e2, Nat.pow_zero, Nat.mul_one] at hge
      have h2 : 2 ≤ 2 ^ (-54 - e).toNat := by
        calc 2 = 2 ^ 1 := rfl
          _ ≤ _ := Nat.pow_le_pow_right (by omega) (by omega)
      have := Nat.mul_le_mul_left 4503599627370496 h2
      omega
    · exact h
  have hm : 4503599627370496 ≤ m := by rcases hshape with h | h; exact h; omega
  refine ⟨rfl, hm, hm53, he, ?_⟩
  rcases hb with h | ⟨h1, h2⟩
  · omega
  · rcases Int.lt_or_le (-52) e with h | h
    · right
      have h3 : 2 ^ (1 - e).toNat ≤ 2 ^ 52 := Nat.pow_le_pow_right (by omega) (by omega)
      have h4 : (2 : Nat) ^ 52 = 4503599627370496 := rfl
      have hm2 : m = 4503599627370496 := by omega
      refine ⟨?_, hm2⟩
      rcases Int.lt_or_le (-51) e with h5 | h5
      · exfalso
        have h6 : 2 ^ (1 - e).toNat ≤ 2 ^ 51 := Nat.pow_le_pow_right (by omega) (by omega)
        have h7 : (2 : Nat) ^ 51 = 2251799813685248 := rfl
        omega
      · omega
    · exact .inl h
theorem rounds_ex {F : Option Nat} (h : Bs F 1) : ∃ q, q ≤ 9 ∧ (∀ j, j < q → geQ (lessQ F j) = true) ∧ geQ (lessQ F q) = false := by
  obtain ⟨b, s, m, e, rfl, hd, hb⟩ := h.ex
  cases hg : geQ (some b) with
  | false => exact ⟨0, by omega, fun j hj => by omega, hg⟩
  | true =>
    obtain ⟨rfl, h1, h2, h3, h4⟩ := ge_norm hd hb hg
    have hdw := decode_wd h1 h2 (k := e) (by omega) (by omega)
    have hsub := sub_decode (b := b) (c := wd m e) (by rw [hd, hdw])
    have hlt : m * 2 ^ (e + 54).toNat < (9 + 1) * 4503599627370496 := by
      rcases h4 with h4 | ⟨rfl, rfl⟩
      · have hp : 2 ^ (e + 54).toNat ≤ 2 ^ 2 := Nat.pow_le_pow_right (by omega) (by omega)
        have := Nat.mul_le_mul (Nat.le_of_lt h2) hp
        have p2 : (9007199254740992 : Nat) * 2 ^ 2 = 36028797018963968 := rfl
        rw [p2] at this
        exact Nat.lt_of_le_of_lt this (by decide +kernel)
      · decide +kernel
    obtain ⟨q, b1, b2, b3⟩ := rounds_wd 9 h1 h2 h3 h4 hlt
    have key : ∀ j, geQ (lessQ (some b) j) = geQ (lessQ (some (wd m e)) j) := fun j => by
      cases j with
      | zero => exact geQ_decode (by rw [hd, hdw]) (by rw [hdw]; rfl)
      | succ j => rw [lessQ_succ, lessQ_succ, hsub]
    exact ⟨q, b1, fun j hj => by rw [key]; exact b2 j hj, by rw [key]; exact b3⟩
theorem bs_lessQ {F : Option Nat} (h : Bs F 1) : ∀ q : Nat, q ≤ 9 → Bs (lessQ F q) (1 + q)
  | 0, _ => h
  | q + 1, hq => (Bs.sub (c := 1 + (q : Int)) (bs_lessQ h q (by omega)) (bs_quart.mono (by omega)) (by omega) (by omega)).mono (by omega)

/-- a bounded number is near 0 -/
theorem near_lt {m : Nat} {e : Int} (hb : bd m e 51) : m <<< (e - min e 0).toNat < 4503599627370496 <<< (0 - min e 0).toNat := by
  have h52 : (4503599627370496 : Nat) = 2 ^ 52 := rfl
  rw [Nat.shiftLeft_eq, Nat.shiftLeft_eq, h52]
  rcases hb with rfl | ⟨h1, h2⟩
  · rw [Nat.zero_mul]; exact Nat.mul_pos (Nat.two_pow_pos _) (Nat.two_pow_pos _)
  · calc m * 2 ^ (e - min e 0).toNat ≤ 2 ^ (51 - e).toNat * 2 ^ (e - min e 0).toNat := Nat.mul_le_mul_right _ h2
      _ = 2 ^ (51 + (0 - min e 0).toNat) := by rw [← Nat.pow_add]; congr 1; omega
      _ < 2 ^ (52 + (0 - min e 0).toNat) := Nat.pow_lt_pow_right (by omega) (by omega)
      _ = 2 ^ 52 * 2 ^ (0 - min e 0).toNat := Nat.pow_add ..
theorem near_of {x : Nat} {s : Bool} {m : Nat} {e : Int} (hd : FloatKind.f64.decode x = .number s m e) (h : m <<< (e - min e 0).toNat < 4503599627370496 <<< (0 - min e 0).toNat) : Near' x := by
  have hp : FloatKind.f64.format.order x 4841369599423283200 = some (compare (Ieee.signed s m (e - min e 0).toNat) ((4503599627370496 <<< (0 - min e 0).toNat : Nat) : Int)) := by
    have h2 : FloatKind.f64.format.order x 4841369599423283200 = (FloatKind.f64.decode x).order (FloatKind.f64.decode 4841369599423283200) := rfl
    rw [h2, hd, c52]; rfl
  have hn : FloatKind.f64.format.order x 14064741636278059008 = some (compare (Ieee.signed s m (e - min e 0).toNat) (-((4503599627370496 <<< (0 - min e 0).toNat : Nat) : Int))) := by
    have h2 : FloatKind.f64.format.order x 14064741636278059008 = (FloatKind.f64.decode x).order (FloatKind.f64.decode 14064741636278059008) := rfl
    rw [h2, hd, m52]; rfl
  have hfin : isFin .f64 x = true := by unfold isFin; rw [hd]
  have hs : Ieee.signed s m (e - min e 0).toNat = if s then -((m <<< (e - min e 0).toNat : Nat) : Int) else ((m <<< (e - min e 0).toNat : Nat) : Int) := rfl
  rw [hs] at hp hn
  unfold Near'
  rw [hp, hn]
  generalize m <<< (e - min e 0).toNat = A at *
  generalize 4503599627370496 <<< (0 - min e 0).toNat = B at *
  refine ⟨hfin, ?_, ?_⟩
  · cases s
    · rw [if_neg (by decide), cmp_lt (by omega)]; rfl
    · rw [if_pos rfl, cmp_lt (by omega)]; rfl
  · cases s
    · rw [if_neg (by decide), cmp_gt (by omega)]; rfl
    · rw [if_pos rfl, cmp_gt (by omega)]; rfl
theorem sin_ok {v : Option Nat} (h : Bs v 20) : ∃ b n, v = some b ∧ Near' b ∧ floatToIntVal .f64 b .i64 = some n ∧ Bd .f64 (sinF (shareV (some b) n)) 106 := by
  obtain ⟨b, s, m, e, rfl, hd, hb⟩ := h.ex
  have hl := near_lt (bd_mono hb (by omega : (20 : Int) ≤ 51))
  have hf := frac_bd hd hl
  rw [fv_num hd] at hf
  exact ⟨b, _, rfl, near_of hd hl, trunc_near hd hl, bd_sinF (bd_share hf)⟩
theorem whole_some {s : Bool} {m : Nat} {e : Int} (h : m <<< (e - min e 0).toNat < 4503599627370496 <<< (0 - min e 0).toNat) : ∃ s' M E, FloatKind.f64.decode (floatOfInt .f64 (if s then -(wholeOf s m e : Int) else (wholeOf s m e : Int))) = .number s' M E := by
  have hw := whole_lt h s
  generalize wholeOf s m e = q at *
  have hfi : ∀ z : Int, floatOfInt .f64 z = FloatKind.f64.encode (.number (decide (z < 0)) z.natAbs 0) := fun _ => rfl
  rw [hfi]
  have hz : (if s then -(q : Int) else (q : Int)).natAbs = q := by cases s <;> simp
  rw [hz]
  by_cases h0 : q = 0
  · subst h0; exact ⟨_, _, _, decode_encode64_zero⟩
  · exact ⟨_, _, _, decode_int h0 hw⟩
theorem bs_shareV {x : Nat} {s : Bool} {m : Nat} {e : Int} (hd : FloatKind.f64.decode x = .number s m e) (h : m <<< (e - min e 0).toNat < 4503599627370496 <<< (0 - min e 0).toNat) : Bs (shareV (fv .f64 x) (if s then -(wholeOf s m e : Int) else (wholeOf s m e : Int))) 1 := by
  have hf := frac_bd hd h
  obtain ⟨s', M, E, hq⟩ := whole_some (s := s) h
  have hsub : Bs (fop .sub .f64 (fv .f64 x) (fv .f64 (floatOfInt .f64 (if s then -(wholeOf s m e : Int) else (wholeOf s m e : Int))))) 0 := by
    refine ⟨hf, ?_⟩
    rw [fv_num hd, fv_num hq]
    have e1 : ∀ b c : Nat, fop .sub .f64 (some b) (some c) = ((FloatKind.f64.decode b).sum (FloatKind.f64.decode c).opposite).map FloatKind.f64.format.write := fun _ _ => rfl
    rw [e1, hd, hq]; rfl
  clear hf hq
  generalize (if s then -(wholeOf s m e : Int) else (wholeOf s m e : Int)) = n at *
  unfold shareV
  split
  · exact Bs.add (c := 0) hsub bs_one (by omega) (by omega)
  · exact hsub.mono (by omega)

def phRe (q : Nat) (c s : Option Nat) : Option Nat := if q = 1 then fop .sub .f64 cZero s else if q = 2 then fop .sub .f64 cZero c else if q = 3 then s else c
def phIm (q : Nat) (c s : Option Nat) : Option Nat := if q = 1 then c else if q = 2 then fop .sub .f64 cZero s else if q = 3 then fop .sub .f64 cZero c else s
/-- what both functions find on the way -/
structure Phs (x : Nat) (n : Int) (q b1 b2 : Nat) (n1 n2 : Int) : Prop where
  whole : floatToIntVal .f64 x .i64 = some n
  few : q ≤ 9
  go : ∀ j, j < q → geQ (lessQ (shareV (fv .f64 x) n) j) = true
  stop : geQ (lessQ (shareV (fv .f64 x) n) q) = false
  left : lessQ (shareV (fv .f64 x) n) q = some b2
  other : fop .sub .f64 cQuarter (some b2) = some b1
  near1 : Near' b1
  near2 : Near' b2
  int1 : floatToIntVal .f64 b1 .i64 = some n1
  int2 : floatToIntVal .f64 b2 .i64 = some n2
  ok1 : Bd .f64 (sinF (shareV (some b1) n1)) 106
  ok2 : Bd .f64 (sinF (shareV (some b2) n2)) 106
theorem phs_ex {x : Nat} {s : Bool} {m : Nat} {e : Int} (hd : FloatKind.f64.decode x = .number s m e) (h : m <<< (e - min e 0).toNat < 4503599627370496 <<< (0 - min e 0).toNat) : ∃ n q b1 b2 n1 n2, Phs x n q b1 b2 n1 n2 := by
  have hF := bs_shareV hd h
  obtain ⟨q, hq, hgo, hstop⟩ := rounds_ex hF
  have hL := bs_lessQ hF q hq
  obtain ⟨b2, n2, e2, a2, i2, o2⟩ := sin_ok (hL.mono (by omega))
  rw [e2] at hL
  obtain ⟨b1, n1, e1, a1, i1, o1⟩ := sin_ok (v := fop .sub .f64 cQuarter (some b2)) ((Bs.sub (c := 10) (bs_quart.mono (by omega)) (hL.mono (by omega)) (by omega) (by omega)).mono (by omega))
  exact ⟨_, q, b1, b2, n1, n2, ⟨trunc_near hd h, hq, hgo, hstop, e2, e1, a1, a2, i1, i2, o1, o2⟩⟩
theorem ph_ok {q : Nat} {c s : Option Nat} (hc : Bd .f64 c 106) (hs : Bd .f64 s 106) : slimOk (phRe q c s) ∧ slimOk (phIm q c s) := by
  have hz : Bd .f64 cZero 106 := bs_zero.1.mono (by omega)
  have z1 := Bd.sub hz hc (by omega) (by omega)
  have z2 := Bd.sub hz hs (by omega) (by omega)
  unfold phRe phIm
  constructor <;> (repeat' split) <;> first | exact z1.slim (by omega) | exact z2.slim (by omega) | exact hc.slim (by omega) | exact hs.slim (by omega)
end Go.Proofs.Ytnjkpapjioeffac
