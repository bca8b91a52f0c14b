/- Logarithms, plainly: halving and doubling of a normal number; the series. -/
import Derived.Test.YtplngjbllllanaaFan
namespace Go.Proofs.Ytplngjbllllanaa
open Go Go.RowKit Go.Proofs.Ytplngjbllllanaa.Flo

/-- the word of the number m * 2 ^ k, m with 53 digits -/
def wd (m : Nat) (k : Int) : Nat := (k + 1074).toNat * 4503599627370496 + m
theorem log53 {m : Nat} (h1 : 4503599627370496 ≤ m) (h2 : m < 9007199254740992) : m.log2 = 52 := by
  have h0 : m ≠ 0 := by omega
  have a1 : m.log2 < 53 := (Nat.log2_lt h0).2 h2
  have a2 : 52 ≤ m.log2 := (Nat.le_log2 h0).2 h1
  omega
theorem wd_word {m : Nat} {k : Int} (h1 : 4503599627370496 ≤ m) (h2 : m < 9007199254740992) (hk : -1074 ≤ k) (hk' : k ≤ 900) : wd m k < Ieee.double.infRung ∧ wd m k = Ieee.double.word false (wd m k) := by
  refine ⟨?_, rfl⟩
  rw [double_inf]
  unfold wd
  omega
theorem decode_wd {m : Nat} {k : Int} (h1 : 4503599627370496 ≤ m) (h2 : m < 9007199254740992) (hk : -1074 ≤ k) (hk' : k ≤ 900) : FloatKind.f64.decode (wd m k) = .number false m k := by
  obtain ⟨a1, a2⟩ := wd_word h1 h2 hk hk'
  show Ieee.double.read (wd m k) = _
  rw [a2, read_wordf Ieee.double false _ a1, double_bin, double_least]
  unfold wd at *
  rw [if_neg (by omega)]
  have b1 : ((k + 1074).toNat * 4503599627370496 + m) % 4503599627370496 = m - 4503599627370496 := by omega
  have b2 : ((k + 1074).toNat * 4503599627370496 + m) / 4503599627370496 = (k + 1074).toNat + 1 := by omega
  rw [b1, b2]
  have c1 : 4503599627370496 + (m - 4503599627370496) = m := by omega
  have c2 : (-1074 : Int) + (((k + 1074).toNat + 1 - 1 : Nat) : Int) = k := by omega
  rw [c1, c2]
theorem near_wd {m c : Nat} {k p : Int} (h1 : 4503599627370496 ≤ m) (h2 : m < 9007199254740992) (hk : -1074 ≤ k) (hk' : k ≤ 900) (hp : p = k - c) : Ieee.double.nearest false (m * 2 ^ c) p = wd m k := by
  subst hp
  have hpw := Nat.two_pow_pos c
  have h0 : m * 2 ^ c ≠ 0 := Nat.mul_ne_zero (by omega) (by omega)
  have hl : (m * 2 ^ c).log2 = 52 + c := by
    have a1 : (m * 2 ^ c).log2 < 53 + c := (Nat.log2_lt h0).2 (by
      rw [Nat.pow_add]; exact Nat.mul_lt_mul_of_pos_right (by have : 2 ^ 53 = 9007199254740992 := rfl; rw [this]; exact h2) hpw)
    have a2 : 52 + c ≤ (m * 2 ^ c).log2 := (Nat.le_log2 h0).2 (by
      rw [Nat.pow_add]; exact Nat.mul_le_mul_right _ (by have : 2 ^ 52 = 4503599627370496 := rfl; rw [this]; exact h1))
    omega
  rw [nearest_rung Ieee.double false _ h0]
  have hr : rungOf Ieee.double false (m * 2 ^ c) (k - c) = wd m k := by
    unfold rungOf wd
    simp only [double_least, double_bin, hl]
    have hf : (Ieee.double.fractionBits : Int) = 52 := rfl
    rw [hf]
    have hlast : max (k - (c : Int) + ((52 + c : Nat) : Int) - 52) (-1074) = k := by omega
    rw [hlast]
    have e1 : (k - (c : Int) - k).toNat = 0 := by omega
    have e2 : (k - (k - (c : Int))).toNat = c := by omega
    have e3 : (k - -1074).toNat = (k + 1074).toNat := by omega
    rw [e1, e2, e3, Nat.shiftLeft_zero, cut_exact]
  rw [hr, Nat.min_eq_left (Nat.le_of_lt (wd_word h1 h2 hk hk').1)]
  exact (wd_word h1 h2 hk hk').2.symm

abbrev cTwo : Option Nat := fv .f64 4611686018427387904
theorem two_num : FloatKind.f64.decode 4611686018427387904 = .number false 4503599627370496 (-51) := rfl
theorem two_some : cTwo = some 4611686018427387904 := by kernel_rfl
theorem fv_wd {m : Nat} {k : Int} (h1 : 4503599627370496 ≤ m) (h2 : m < 9007199254740992) (hk : -1074 ≤ k) (hk' : k ≤ 900) : fv .f64 (wd m k) = some (wd m k) := fv_num (decode_wd h1 h2 hk hk')
theorem fv_eq {r b : Nat} (h : fv .f64 r = some b) : r = b := by
  rcases fv_cases .f64 r with ⟨_, h'⟩ | ⟨_, h'⟩
  · rw [h'] at h; cases h
  · rw [h'] at h; exact Option.some.inj h
theorem half_wd {m : Nat} {k : Int} (h1 : 4503599627370496 ≤ m) (h2 : m < 9007199254740992) (hk : -1073 ≤ k) (hk' : k ≤ 900) : fop .quo .f64 (fv .f64 (wd m k)) cTwo = some (wd m (k - 1)) := by
  rw [fv_wd h1 h2 (by omega) hk', two_some]
  have e : fop .quo .f64 (some (wd m k)) (some 4611686018427387904) = ((FloatKind.f64.decode (wd m k)).quotient 54 (FloatKind.f64.decode 4611686018427387904)).map FloatKind.f64.format.write := rfl
  rw [e, decode_wd h1 h2 (by omega) hk', two_num]
  unfold Ieee.Datum.quotient
  have hn : ¬ (4503599627370496 : Nat) = 0 := by omega
  have hl : Nat.log2 4503599627370496 = 52 := by decide +kernel
  simp only [if_neg hn, hl, log53 h1 h2]
  have hd : m <<< (54 + 52 - 52) = m * 4 * 4503599627370496 := by
    rw [Nat.shiftLeft_eq, Nat.mul_assoc]
  rw [hd, Nat.mul_div_cancel _ (by omega), Nat.mul_mod_left]
  have hm : 2 * (m * 4) + ((0 : Nat) != 0).toNat = m * 2 ^ 3 := by
    have : ((0 : Nat) != 0).toNat = 0 := rfl
    rw [this]; omega
  rw [hm]
  show some (Ieee.double.nearest false (m * 2 ^ 3) _) = _
  rw [near_wd (k := k - 1) h1 h2 (by omega) (by omega) (by omega)]
theorem double_wd {m : Nat} {k : Int} (h1 : 4503599627370496 ≤ m) (h2 : m < 9007199254740992) (hk : -1074 ≤ k) (hk' : k ≤ 899) : fop .mul .f64 (fv .f64 (wd m k)) cTwo = some (wd m (k + 1)) := by
  rw [fv_wd h1 h2 hk (by omega), two_some]
  have e : fop .mul .f64 (some (wd m k)) (some 4611686018427387904) = ((FloatKind.f64.decode (wd m k)).product (FloatKind.f64.decode 4611686018427387904)).map FloatKind.f64.format.write := rfl
  rw [e, decode_wd h1 h2 hk (by omega), two_num]
  show some (Ieee.double.nearest false (m * 2 ^ 52) (k + -51)) = _
  rw [near_wd (k := k + 1) h1 h2 (by omega) (by omega) (by omega)]

theorem c15 : FloatKind.f64.decode 4609434218613702656 = .number false 6755399441055744 (-52) := rfl
theorem c075 : FloatKind.f64.decode 4604930618986332160 = .number false 6755399441055744 (-53) := rfl
/-- a comparison of two normal numbers -/
theorem cmp_wd {m c : Nat} {k l : Int} (h1 : 4503599627370496 ≤ m) (h2 : m < 9007199254740992) (g1 : 4503599627370496 ≤ c) (g2 : c < 9007199254740992) :
    compare (Ieee.signed false m (k - min k l).toNat) (Ieee.signed false c (l - min k l).toNat) = if k < l ∨ (k = l ∧ m < c) then .lt else if k = l ∧ m = c then .eq else .gt := by
  have s1 : Ieee.signed false m (k - min k l).toNat = ((m * 2 ^ (k - min k l).toNat : Nat) : Int) := by unfold Ieee.signed; rw [Nat.shiftLeft_eq]; rfl
  have s2 : Ieee.signed false c (l - min k l).toNat = ((c * 2 ^ (l - min k l).toNat : Nat) : Int) := by unfold Ieee.signed; rw [Nat.shiftLeft_eq]; rfl
  rw [s1, s2]
  by_cases hkl : k < l
  · rw [if_pos (.inl hkl)]
    have e1 : (k - min k l).toNat = 0 := by omega
    have h3 : 2 ≤ 2 ^ (l - min k l).toNat := by
      calc 2 = 2 ^ 1 := rfl
        _ ≤ _ := Nat.pow_le_pow_right (by omega) (by omega)
    rw [e1, Nat.pow_zero, Nat.mul_one]
    have h4 : c * 2 ≤ c * 2 ^ (l - min k l).toNat := Nat.mul_le_mul_left _ h3
    generalize c * 2 ^ (l - min k l).toNat = B at *
    exact cmp_lt (by omega)
  · by_cases he : k = l
    · subst he
      have e1 : (k - min k k).toNat = 0 := by omega
      rw [e1, Nat.pow_zero, Nat.mul_one, Nat.mul_one]
      by_cases hm : m < c
      · rw [if_pos (.inr ⟨rfl, hm⟩)]; exact cmp_lt (by omega)
      · rw [if_neg (by omega)]
        by_cases hq : m = c
        · rw [if_pos ⟨rfl, hq⟩]; exact cmp_eq (by omega)
        · rw [if_neg (by omega)]; exact cmp_gt (by omega)
    · rw [if_neg (by omega), if_neg (by omega)]
      have e1 : (l - min k l).toNat = 0 := by omega
      have h3 : 2 ≤ 2 ^ (k - min k l).toNat := by
        calc 2 = 2 ^ 1 := rfl
          _ ≤ _ := Nat.pow_le_pow_right (by omega) (by omega)
      rw [e1, Nat.pow_zero, Nat.mul_one]
      have h4 : m * 2 ≤ m * 2 ^ (k - min k l).toNat := Nat.mul_le_mul_left _ h3
      generalize m * 2 ^ (k - min k l).toNat = B at *
      exact cmp_gt (by omega)
theorem ge_15 {m : Nat} {k : Int} (h1 : 4503599627370496 ≤ m) (h2 : m < 9007199254740992) (hk : -1074 ≤ k) (hk' : k ≤ 900) :
    (FloatKind.f64.format.order (wd m k) 4609434218613702656 == some .gt || FloatKind.f64.format.order (wd m k) 4609434218613702656 == some .eq) = decide (-52 < k ∨ (k = -52 ∧ 6755399441055744 ≤ m)) := by
  have ho : FloatKind.f64.format.order (wd m k) 4609434218613702656 = (FloatKind.f64.decode (wd m k)).order (FloatKind.f64.decode 4609434218613702656) := rfl
  rw [ho, decode_wd h1 h2 hk hk', c15]
  simp only [Ieee.Datum.order]
  rw [cmp_wd h1 h2 (by omega) (by omega)]
  by_cases a : k < -52 ∨ (k = -52 ∧ m < 6755399441055744)
  · rw [if_pos a, decide_eq_false (by omega)]; rfl
  · rw [if_neg a, decide_eq_true (by omega)]
    by_cases b : k = -52 ∧ m = 6755399441055744
    · rw [if_pos b]; rfl
    · rw [if_neg b]; rfl
theorem lt_075 {m : Nat} {k : Int} (h1 : 4503599627370496 ≤ m) (h2 : m < 9007199254740992) (hk : -1074 ≤ k) (hk' : k ≤ 900) :
    (FloatKind.f64.format.order (wd m k) 4604930618986332160 == some .lt) = decide (k < -53 ∨ (k = -53 ∧ m < 6755399441055744)) := by
  have ho : FloatKind.f64.format.order (wd m k) 4604930618986332160 = (FloatKind.f64.decode (wd m k)).order (FloatKind.f64.decode 4604930618986332160) := rfl
  rw [ho, decode_wd h1 h2 hk hk', c075]
  simp only [Ieee.Datum.order]
  rw [cmp_wd h1 h2 (by omega) (by omega)]
  by_cases a : k < -53 ∨ (k = -53 ∧ m < 6755399441055744)
  · rw [if_pos a, decide_eq_true a]; rfl
  · rw [if_neg a, decide_eq_false a]
    by_cases b : k = -53 ∧ m = 6755399441055744
    · rw [if_pos b]; rfl
    · rw [if_neg b]; rfl

abbrev cLn2 : Option Nat := fv .f64 4604418534313441775
def logP (u : Option Nat) : Nat → Option Nat
  | 0 => cZero
  | j + 1 => fop .add .f64 (fop .quo .f64 cOne (fv .f64 (floatOfInt .f64 (25 - 2 * (j : Int))))) (fop .mul .f64 u (logP u j))
def logS (x : Option Nat) : Option Nat := fop .quo .f64 (fop .sub .f64 x cOne) (fop .add .f64 x cOne)
def logOf (s : Option Nat) (e : Int) : Option Nat := fop .add .f64 (fop .mul .f64 cTwo (fop .mul .f64 s (logP (fop .mul .f64 s s) 13))) (fop .mul .f64 (fv .f64 (floatOfInt .f64 e)) cLn2)
/-- where the scaling ends -/
def endK (m : Nat) : Int := if m < 6755399441055744 then -52 else -53

theorem fop_add_comm (a b : Option Nat) : fop .add .f64 a b = fop .add .f64 b a := by
  cases a with
  | none => cases b <;> rfl
  | some a => cases b with
    | none => rfl
    | some b =>
      have e1 : fop .add .f64 (some a) (some b) = ((FloatKind.f64.decode a).sum (FloatKind.f64.decode b)).map FloatKind.f64.format.write := rfl
      have e2 : fop .add .f64 (some b) (some a) = ((FloatKind.f64.decode b).sum (FloatKind.f64.decode a)).map FloatKind.f64.format.write := rfl
      rw [e1, e2]
      congr 1
      cases FloatKind.f64.decode a with
      | nan s t => cases FloatKind.f64.decode b <;> rfl
      | infinity s => cases FloatKind.f64.decode b with
        | nan s t => rfl
        | number s m e => rfl
        | infinity t => cases s <;> cases t <;> rfl
      | number s m i => cases FloatKind.f64.decode b with
        | nan s t => rfl
        | infinity s => rfl
        | number t n j =>
          unfold Ieee.Datum.sum
          simp only [Int.min_comm j i, Int.add_comm, Bool.and_comm]
theorem bd_logP_step {u : Option Nat} {j : Nat} {b : Int} {c n : Nat} {e : Int} (hu : Bd .f64 u 4) (hp : Bd .f64 (logP u j) b) (hc : fv .f64 (floatOfInt .f64 (25 - 2 * (j : Int))) = some c) (hd : FloatKind.f64.decode c = .number false n e) (hn : n ≠ 0) (hq : 0 ≤ e + n.log2) (hq' : e + n.log2 ≤ 12) (hb0 : 0 ≤ b) (hb : b ≤ 500) :
    Bd .f64 (logP u (j + 1)) (b + 5) := by
  show Bd .f64 (fop .add .f64 (fop .quo .f64 cOne (fv .f64 (floatOfInt .f64 (25 - 2 * (j : Int))))) (fop .mul .f64 u (logP u j))) _
  rw [hc]
  have h1 := Bd.mul hu hp (by omega) (by omega)
  have h2 := Bd.quo bd_one hd hn (by omega) (by omega)
  exact Bd.mono (Bd.add (c := 4 + b) (Bd.mono h2 (by omega)) h1 (by omega) (by omega)) (by omega)
theorem bd_logP {u : Option Nat} (hu : Bd .f64 u 4) : Bd .f64 (logP u 13) 65 := by
  have s0 : Bd .f64 (logP u 0) 0 := Bd.const (k := .f64) (b := 0) (s := false) (m := 0) (e := -1074) (by kernel_rfl) (.inl rfl)
  have s1 := bd_logP_step (c := 4627730092099895296) (n := 7036874417766400) (e := -48) hu s0 (by kernel_rfl) (by kernel_rfl) (by omega) (by decide +kernel) (by decide +kernel) (by omega) (by omega)
  have s2 := bd_logP_step (c := 4627167142146473984) (n := 6473924464345088) (e := -48) hu s1 (by kernel_rfl) (by kernel_rfl) (by omega) (by decide +kernel) (by decide +kernel) (by omega) (by omega)
  have s3 := bd_logP_step (c := 4626604192193052672) (n := 5910974510923776) (e := -48) hu s2 (by kernel_rfl) (by kernel_rfl) (by omega) (by decide +kernel) (by decide +kernel) (by omega) (by omega)
  have s4 := bd_logP_step (c := 4626041242239631360) (n := 5348024557502464) (e := -48) hu s3 (by kernel_rfl) (by kernel_rfl) (by omega) (by decide +kernel) (by decide +kernel) (by omega) (by omega)
  have s5 := bd_logP_step (c := 4625478292286210048) (n := 4785074604081152) (e := -48) hu s4 (by kernel_rfl) (by kernel_rfl) (by omega) (by decide +kernel) (by decide +kernel) (by omega) (by omega)
  have s6 := bd_logP_step (c := 4624633867356078080) (n := 8444249301319680) (e := -49) hu s5 (by kernel_rfl) (by kernel_rfl) (by omega) (by decide +kernel) (by decide +kernel) (by omega) (by omega)
  have s7 := bd_logP_step (c := 4623507967449235456) (n := 7318349394477056) (e := -49) hu s6 (by kernel_rfl) (by kernel_rfl) (by omega) (by decide +kernel) (by decide +kernel) (by omega) (by omega)
  have s8 := bd_logP_step (c := 4622382067542392832) (n := 6192449487634432) (e := -49) hu s7 (by kernel_rfl) (by kernel_rfl) (by omega) (by decide +kernel) (by decide +kernel) (by omega) (by omega)
  have s9 := bd_logP_step (c := 4621256167635550208) (n := 5066549580791808) (e := -49) hu s8 (by kernel_rfl) (by kernel_rfl) (by omega) (by decide +kernel) (by decide +kernel) (by omega) (by omega)
  have s10 := bd_logP_step (c := 4619567317775286272) (n := 7881299347898368) (e := -50) hu s9 (by kernel_rfl) (by kernel_rfl) (by omega) (by decide +kernel) (by decide +kernel) (by omega) (by omega)
  have s11 := bd_logP_step (c := 4617315517961601024) (n := 5629499534213120) (e := -50) hu s10 (by kernel_rfl) (by kernel_rfl) (by omega) (by decide +kernel) (by decide +kernel) (by omega) (by omega)
  have s12 := bd_logP_step (c := 4613937818241073152) (n := 6755399441055744) (e := -51) hu s11 (by kernel_rfl) (by kernel_rfl) (by omega) (by decide +kernel) (by decide +kernel) (by omega) (by omega)
  have s13 := bd_logP_step (c := 4607182418800017408) (n := 4503599627370496) (e := -52) hu s12 (by kernel_rfl) (by kernel_rfl) (by omega) (by decide +kernel) (by decide +kernel) (by omega) (by omega)
  exact s13
theorem bd_int {e : Int} (h : e.natAbs ≤ 256) : Bd .f64 (fv .f64 (floatOfInt .f64 e)) 9 := by
  have hfi : floatOfInt .f64 e = FloatKind.f64.encode (.number (decide (e < 0)) e.natAbs 0) := rfl
  rw [hfi]
  by_cases h0 : e.natAbs = 0
  · rw [h0]
    have hd := decode_encode64_zero (s := decide (e < 0)) (e := 0)
    rw [fv_num hd]
    exact Bd.const hd (.inl rfl)
  · have hd := decode_int (s := decide (e < 0)) h0 (by omega)
    rw [fv_num hd]
    refine Bd.const hd (.inr ?_)
    have hl : e.natAbs.log2 < 9 := (Nat.log2_lt h0).2 (by omega)
    obtain ⟨_, b2⟩ := shl_bounds h0 (n := 52) (by omega)
    refine ⟨by omega, Nat.le_trans (Nat.le_of_lt b2) (Nat.pow_le_pow_right (by omega) (by omega))⟩
theorem bd_logOf {m : Nat} {e : Int} (h1 : 4503599627370496 ≤ m) (h2 : m < 9007199254740992) (he : e.natAbs ≤ 256) : Bd .f64 (logOf (logS (fv .f64 (wd m (endK m)))) e) 80 := by
  have hk : endK m = -52 ∨ endK m = -53 := by unfold endK; split <;> omega
  have hd := decode_wd h1 h2 (k := endK m) (by omega) (by omega)
  rw [fv_num hd]
  have hx : Bd .f64 (some (wd m (endK m))) 1 := Bd.const hd (.inr ⟨by omega, by
    have h3 : m ≤ 2 ^ 53 := by have : 2 ^ 53 = 9007199254740992 := rfl; rw [this]; omega
    exact Nat.le_trans h3 (Nat.pow_le_pow_right (by omega) (by omega))⟩)
  have hn : Nn (some (wd m (endK m))) := fun b hb => by cases hb; exact ⟨_, _, _, hd, .inl rfl⟩
  have hs : Bd .f64 (logS (some (wd m (endK m)))) 2 := by
    unfold logS
    have a1 := Bd.sub (c := 1) hx (Bd.mono bd_one (by omega)) (by omega) (by omega)
    have a2 := (one_add hx hn (by omega) (by omega)).1
    rw [fop_add_comm] at a2
    exact Bd.quo_lo a1 a2 (by omega) (by omega)
  generalize logS (some (wd m (endK m))) = s at *
  unfold logOf
  have hu := Bd.mul hs hs (by omega) (by omega)
  have hq := Bd.mul hs (bd_logP hu) (by omega) (by omega)
  have h2' : Bd .f64 cTwo 1 := Bd.const (k := .f64) (b := 4611686018427387904) (s := false) (m := 4503599627370496) (e := -51) (by kernel_rfl) (.inr ⟨by omega, by decide +kernel⟩)
  have hl : Bd .f64 cLn2 0 := Bd.const (k := .f64) (b := 4604418534313441775) (s := false) (m := 6243314768165359) (e := -53) (by kernel_rfl) (.inr ⟨by omega, by decide +kernel⟩)
  have h3 := Bd.mul h2' hq (by omega) (by omega)
  have h4 := Bd.mul (bd_int he) hl (by omega) (by omega)
  exact Bd.mono (Bd.add (c := 70) (Bd.mono h3 (by omega)) (Bd.mono h4 (by omega)) (by omega) (by omega)) (by omega)

end Go.Proofs.Ytplngjbllllanaa
