/- Tenths, plainly: values that are there and bounded; the floor of a bounded number is a small integer. -/
import Derived.Test.YtnjkpapjioeffacFlg
namespace Go.Proofs.Ytnjkpapjioeffac
open Go Go.RowKit Go.Proofs.Ytnjkpapjioeffac.Flo
set_option linter.unusedVariables false

/-- a value that is there, and within 2 ^ t -/
def Bs (v : Option Nat) (t : Int) : Prop := Bd .f64 v t ∧ v.isSome = true
theorem Bs.ex {v : Option Nat} {t : Int} (h : Bs v t) : ∃ b s m e, v = some b ∧ FloatKind.f64.decode b = .number s m e ∧ bd m e t := by
  obtain ⟨h1, h2⟩ := h
  cases v with
  | none => cases h2
  | some b =>
    obtain ⟨s, m, e, d, hb⟩ := h1 b rfl
    exact ⟨b, s, m, e, rfl, d, hb⟩
theorem Bs.mono {v : Option Nat} {t t' : Int} (h : Bs v t) (ht : t ≤ t') : Bs v t' := ⟨Bd.mono h.1 ht, h.2⟩
theorem Bs.mul {x y : Option Nat} {a b : Int} (h : Bs x a) (h' : Bs y b) (h1 : -1022 ≤ a + b) (h2 : a + b ≤ 1023) : Bs (fop .mul .f64 x y) (a + b) := by
  refine ⟨Bd.mul h.1 h'.1 h1 h2, ?_⟩
  obtain ⟨b, s, m, e, rfl, d, _⟩ := h.ex
  obtain ⟨c, s', n, j, rfl, d', _⟩ := h'.ex
  have e : fop .mul .f64 (some b) (some c) = ((FloatKind.f64.decode b).product (FloatKind.f64.decode c)).map FloatKind.f64.format.write := rfl
  rw [e, d, d']; rfl
theorem Bs.add {x y : Option Nat} {c : Int} (h : Bs x c) (h' : Bs y c) (h1 : -1023 ≤ c) (h2 : c ≤ 1022) : Bs (fop .add .f64 x y) (c + 1) := by
  refine ⟨Bd.add h.1 h'.1 h1 h2, ?_⟩
  obtain ⟨b, s, m, e, rfl, d, _⟩ := h.ex
  obtain ⟨c, s', n, j, rfl, d', _⟩ := h'.ex
  have e : fop .add .f64 (some b) (some c) = ((FloatKind.f64.decode b).sum (FloatKind.f64.decode c)).map FloatKind.f64.format.write := rfl
  rw [e, d, d']; rfl
theorem Bs.quo_lo {x y : Option Nat} {a q : Int} (h : Bs x a) (hy : Lo y q) (hs : y.isSome = true) (h1 : -1022 ≤ a - q) (h2 : a - q ≤ 1023) : Bs (fop .quo .f64 x y) (a - q) := by
  refine ⟨Bd.quo_lo h.1 hy h1 h2, ?_⟩
  obtain ⟨b, s, m, e, rfl, d, _⟩ := h.ex
  cases y with
  | none => cases hs
  | some c =>
    obtain ⟨s', n, j, d', hn, _⟩ := hy c rfl
    have e : fop .quo .f64 (some b) (some c) = ((FloatKind.f64.decode b).quotient 54 (FloatKind.f64.decode c)).map FloatKind.f64.format.write := rfl
    rw [e, d, d']
    simp only [Ieee.Datum.quotient, if_neg hn]
    rfl
theorem Bs.const {b : Nat} {s : Bool} {m : Nat} {e t : Int} (h : FloatKind.f64.decode b = .number s m e) (hb : bd m e t) : Bs (fv .f64 b) t := by
  rw [fv_num h]; exact ⟨Bd.const h hb, rfl⟩
theorem bs_one : Bs cOne 0 := Bs.const (s := false) (m := 4503599627370496) (e := -52) rfl (.inr ⟨by omega, by decide +kernel⟩)
theorem bs_half : Bs cHalf 0 := Bs.const (s := false) (m := 4503599627370496) (e := -53) rfl (.inr ⟨by omega, by decide +kernel⟩)

/-- x - 1 of the scaled number is small -/
theorem bs_less {m : Nat} (h1 : 4503599627370496 ≤ m) (h2 : m < 9007199254740992) : Bs (fop .sub .f64 (some (wd m (endK m))) cOne) (-1) := by
  have hk : endK m = -52 ∨ endK m = -53 := by unfold endK; split <;> omega
  have hd := decode_wd h1 h2 (k := endK m) (by omega) (by omega)
  have e : fop .sub .f64 (some (wd m (endK m))) (some 4607182418800017408) = ((FloatKind.f64.decode (wd m (endK m))).sum (FloatKind.f64.decode 4607182418800017408).opposite).map FloatKind.f64.format.write := rfl
  rw [one_some, e, hd, one_num]
  have e2 : (Ieee.Datum.number false 4503599627370496 (-52)).opposite = .number true 4503599627370496 (-52) := rfl
  rw [e2]
  refine ⟨?_, rfl⟩
  intro r hr
  have hr := Option.some.inj hr
  have hb : bd (Ieee.signed false m (endK m - min (endK m) (-52)).toNat + Ieee.signed true 4503599627370496 (-52 - min (endK m) (-52)).toNat).natAbs (min (endK m) (-52)) (-1) := by
    unfold endK
    by_cases c : m < 6755399441055744
    · rw [if_pos c]
      have a1 : min (-52 : Int) (-52) = -52 := rfl
      have a2 : ((-52 : Int) - -52).toNat = 0 := rfl
      rw [a1, a2]
      have s1 : Ieee.signed false m 0 = (m : Int) := by unfold Ieee.signed; rw [Nat.shiftLeft_eq, Nat.pow_zero, Nat.mul_one]; rfl
      have s2 : Ieee.signed true 4503599627370496 0 = -4503599627370496 := rfl
      rw [s1, s2]
      refine .inr ⟨by omega, ?_⟩
      have : 2 ^ ((-1 : Int) - -52).toNat = 2251799813685248 := rfl
      rw [this]; omega
    · rw [if_neg c]
      have a1 : min (-53 : Int) (-52) = -53 := rfl
      have a2 : ((-53 : Int) - -53).toNat = 0 := rfl
      have a3 : ((-52 : Int) - -53).toNat = 1 := rfl
      rw [a1, a2, a3]
      have s1 : Ieee.signed false m 0 = (m : Int) := by unfold Ieee.signed; rw [Nat.shiftLeft_eq, Nat.pow_zero, Nat.mul_one]; rfl
      have s2 : Ieee.signed true 4503599627370496 1 = -9007199254740992 := rfl
      rw [s1, s2]
      refine .inr ⟨by omega, ?_⟩
      have : 2 ^ ((-1 : Int) - -53).toNat = 4503599627370496 := rfl
      rw [this]; omega
  obtain ⟨r1, r2⟩ := f64_room (t := -1) (by omega) (by omega)
  obtain ⟨m', e', g1, g2⟩ := nearest_bd FloatKind.f64.format (if Ieee.signed false m (endK m - min (endK m) (-52)).toNat + Ieee.signed true 4503599627370496 (-52 - min (endK m) (-52)).toNat = 0 then false && true else decide (Ieee.signed false m (endK m - min (endK m) (-52)).toNat + Ieee.signed true 4503599627370496 (-52 - min (endK m) (-52)).toNat < 0)) hb r1 r2
  exact ⟨_, m', e', by rw [← hr]; exact g1, g2⟩
theorem bs_logS {m : Nat} (h1 : 4503599627370496 ≤ m) (h2 : m < 9007199254740992) : Bs (logS (fv .f64 (wd m (endK m)))) (-1) := by
  have hk : endK m = -52 ∨ endK m = -53 := by unfold endK; split <;> omega
  have hd := decode_wd h1 h2 (k := endK m) (by omega) (by omega)
  rw [fv_num hd]
  have hx : Bd .f64 (some (wd m (endK m))) 1 := Bd.const hd (.inr ⟨by omega, by
    have h3 : m ≤ 2 ^ 53 := by have : 2 ^ 53 = 9007199254740992 := rfl; rw [this]; omega
    exact Nat.le_trans h3 (Nat.pow_le_pow_right (by omega) (by omega))⟩)
  have hn : Nn (some (wd m (endK m))) := fun b hb => by cases hb; exact ⟨_, _, _, hd, .inl rfl⟩
  unfold logS
  have a2 := (one_add hx hn (by omega) (by omega)).1
  rw [fop_add_comm] at a2
  have a3 := (Bs.add (c := 1) (x := some (wd m (endK m))) (y := cOne) ⟨hx, rfl⟩ (bs_one.mono (by omega)) (by omega) (by omega)).2
  exact Bs.quo_lo (bs_less h1 h2) a2 a3 (by omega) (by omega)
theorem bs_logP_step {u : Option Nat} {j : Nat} (hu : Bs u (-2)) (hp : Bs (logP u j) 1) (hc : Bs (fop .quo .f64 cOne (fv .f64 (floatOfInt .f64 (25 - 2 * (j : Int))))) 0) : Bs (logP u (j + 1)) 1 := by
  show Bs (fop .add .f64 (fop .quo .f64 cOne (fv .f64 (floatOfInt .f64 (25 - 2 * (j : Int))))) (fop .mul .f64 u (logP u j))) _
  exact Bs.add (c := 0) hc ((Bs.mul hu hp (by omega) (by omega)).mono (by omega)) (by omega) (by omega)
/-- 1 / k, for an odd k -/
theorem bs_inv {c n : Nat} {e k : Int} (hc : fv .f64 (floatOfInt .f64 k) = some c) (hd : FloatKind.f64.decode c = .number false n e) (hn : n ≠ 0) (hq : 0 ≤ e + n.log2) (hq' : e + n.log2 ≤ 12) : Bs (fop .quo .f64 cOne (fv .f64 (floatOfInt .f64 k))) 0 := by
  rw [hc]
  have h : Lo (some c) 0 := fun b hb => by cases hb; exact ⟨_, _, _, hd, hn, hq⟩
  exact Bs.quo_lo bs_one h rfl (by omega) (by omega)
theorem bs_logP {u : Option Nat} (hu : Bs u (-2)) : Bs (logP u 13) 1 := by
  have s0 : Bs (logP u 0) 1 := Bs.const (b := 0) (s := false) (m := 0) (e := -1074) rfl (.inl rfl)
  have s1 := bs_logP_step hu s0 (bs_inv (c := 4627730092099895296) (n := 7036874417766400) (e := -48) (by kernel_rfl) (by kernel_rfl) (by omega) (by decide +kernel) (by decide +kernel))
  have s2 := bs_logP_step hu s1 (bs_inv (c := 4627167142146473984) (n := 6473924464345088) (e := -48) (by kernel_rfl) (by kernel_rfl) (by omega) (by decide +kernel) (by decide +kernel))
  have s3 := bs_logP_step hu s2 (bs_inv (c := 4626604192193052672) (n := 5910974510923776) (e := -48) (by kernel_rfl) (by kernel_rfl) (by omega) (by decide +kernel) (by decide +kernel))
  have s4 := bs_logP_step hu s3 (bs_inv (c := 4626041242239631360) (n := 5348024557502464) (e := -48) (by kernel_rfl) (by kernel_rfl) (by omega) (by decide +kernel) (by decide +kernel))
  have s5 := bs_logP_step hu s4 (bs_inv (c := 4625478292286210048) (n := 4785074604081152) (e := -48) (by kernel_rfl) (by kernel_rfl) (by omega) (by decide +kernel) (by decide +kernel))
  have s6 := bs_logP_step hu s5 (bs_inv (c := 4624633867356078080) (n := 8444249301319680) (e := -49) (by kernel_rfl) (by kernel_rfl) (by omega) (by decide +kernel) (by decide +kernel))
  have s7 := bs_logP_step hu s6 (bs_inv (c := 4623507967449235456) (n := 7318349394477056) (e := -49) (by kernel_rfl) (by kernel_rfl) (by omega) (by decide +kernel) (by decide +kernel))
  have s8 := bs_logP_step hu s7 (bs_inv (c := 4622382067542392832) (n := 6192449487634432) (e := -49) (by kernel_rfl) (by kernel_rfl) (by omega) (by decide +kernel) (by decide +kernel))
  have s9 := bs_logP_step hu s8 (bs_inv (c := 4621256167635550208) (n := 5066549580791808) (e := -49) (by kernel_rfl) (by kernel_rfl) (by omega) (by decide +kernel) (by decide +kernel))
  have s10 := bs_logP_step hu s9 (bs_inv (c := 4619567317775286272) (n := 7881299347898368) (e := -50) (by kernel_rfl) (by kernel_rfl) (by omega) (by decide +kernel) (by decide +kernel))
  have s11 := bs_logP_step hu s10 (bs_inv (c := 4617315517961601024) (n := 5629499534213120) (e := -50) (by kernel_rfl) (by kernel_rfl) (by omega) (by decide +kernel) (by decide +kernel))
  have s12 := bs_logP_step hu s11 (bs_inv (c := 4613937818241073152) (n := 6755399441055744) (e := -51) (by kernel_rfl) (by kernel_rfl) (by omega) (by decide +kernel) (by decide +kernel))
  have s13 := bs_logP_step hu s12 (bs_inv (c := 4607182418800017408) (n := 4503599627370496) (e := -52) (by kernel_rfl) (by kernel_rfl) (by omega) (by decide +kernel) (by decide +kernel))
  exact s13
theorem int_some {e : Int} (h : e.natAbs ≤ 256) : (fv .f64 (floatOfInt .f64 e)).isSome = true := by
  have hfi : floatOfInt .f64 e = FloatKind.f64.encode (.number (decide (e < 0)) e.natAbs 0) := rfl
  rw [hfi]
  by_cases h0 : e.natAbs = 0
  · rw [h0]
    have hd := decode_encode64_zero (s := decide (e < 0)) (e := 0)
    rw [fv_num hd]; rfl
  · have hd := decode_int (s := decide (e < 0)) h0 (by omega)
    rw [fv_num hd]; rfl
abbrev cTen : Option Nat := fv .f64 4631308968768463603
def tenV (l : Option Nat) : Option Nat := fop .add .f64 (fop .mul .f64 l cTen) cHalf
theorem bs_ten {m : Nat} {e : Int} (h1 : 4503599627370496 ≤ m) (h2 : m < 9007199254740992) (he : e.natAbs ≤ 256) : Bs (tenV (logOf (logS (fv .f64 (wd m (endK m)))) e)) 17 := by
  have hs := bs_logS h1 h2
  generalize logS (fv .f64 (wd m (endK m))) = s at *
  unfold tenV logOf
  have hu := Bs.mul hs hs (by omega) (by omega)
  have hq := Bs.mul hs (bs_logP hu) (by omega) (by omega)
  have h2' : Bs cTwo 1 := Bs.const (s := false) (m := 4503599627370496) (e := -51) (by kernel_rfl) (.inr ⟨by omega, by decide +kernel⟩)
  have hl : Bs cLn2 0 := Bs.const (s := false) (m := 6243314768165359) (e := -53) (by kernel_rfl) (.inr ⟨by omega, by decide +kernel⟩)
  have ht : Bs cTen 6 := Bs.const (s := false) (m := 6112151458964211) (e := -47) (by kernel_rfl) (.inr ⟨by omega, by decide +kernel⟩)
  have h3 := Bs.mul h2' hq (by omega) (by omega)
  have h4 := Bs.mul (x := fv .f64 (floatOfInt .f64 e)) ⟨bd_int he, int_some he⟩ hl (by omega) (by omega)
  have h5 := Bs.add (c := 9) (h3.mono (by omega)) (h4.mono (by omega)) (by omega) (by omega)
  have h6 := Bs.mul h5 ht (by omega) (by omega)
  exact Bs.add (c := 16) (h6.mono (by omega)) (bs_half.mono (by omega)) (by omega) (by omega)

/-- math.Floor of a number -/
def floorB (x : Nat) : Nat := FloatKind.f64.encode ((FloatKind.f64.decode x).integral .down)
theorem cut_down_le (s : Bool) (n d : Nat) : Ieee.Toward.down.cut s n d ≤ n / 2 ^ d + 1 := by
  unfold Ieee.Toward.cut
  simp only [Nat.shiftLeft_eq, Nat.one_mul]
  have hb : ∀ b : Bool, b.toNat ≤ 1 := fun b => by cases b <;> decide
  by_cases h : d ≤ n.log2 + 2
  · rw [Nat.min_eq_left h]
    exact Nat.add_le_add_left (hb _) _
  · rw [Nat.min_eq_right (by omega)]
    have h1 : n < 2 ^ (n.log2 + 1) := Nat.lt_log2_self
    have e2 : 2 ^ (n.log2 + 2) = 2 * 2 ^ (n.log2 + 1) := by rw [Nat.pow_succ, Nat.mul_comm]
    have hlt : n < 2 ^ (n.log2 + 2) := by omega
    rw [Nat.div_eq_of_lt hlt]
    exact Nat.le_trans (Nat.add_le_add_left (hb _) _) (Nat.add_le_add_right (Nat.zero_le _) 1)
theorem whole_bd {m : Nat} {e : Int} (hb : bd m e 20) : m <<< e.toNat / 2 ^ (-e).toNat ≤ 1048576 := by
  rw [Nat.shiftLeft_eq]
  rcases hb with rfl | ⟨h1, h2⟩
  · rw [Nat.zero_mul, Nat.zero_div]; omega
  · have h20 : 1048576 = 2 ^ 20 := rfl
    by_cases he : 0 ≤ e
    · have e2 : (-e).toNat = 0 := by omega
      rw [e2, Nat.pow_zero, Nat.div_one]
      calc m * 2 ^ e.toNat ≤ 2 ^ (20 - e).toNat * 2 ^ e.toNat := Nat.mul_le_mul_right _ h2
        _ = 2 ^ 20 := by rw [← Nat.pow_add]; congr 1; omega
    · have e2 : e.toNat = 0 := by omega
      rw [e2, Nat.pow_zero, Nat.mul_one]
      refine Nat.div_le_of_le_mul ?_
      rw [h20, ← Nat.pow_add]
      refine Nat.le_trans h2 (Nat.pow_le_pow_right (by omega) (by omega))
theorem floor_int {x : Nat} {s : Bool} {m : Nat} {e : Int} (hd : FloatKind.f64.decode x = .number s m e) (hb : bd m e 20) : ∃ n, floatToIntVal .f64 (floorB x) .i64 = some n := by
  unfold floorB
  rw [hd]
  show ∃ n, floatToIntVal .f64 (FloatKind.f64.encode (.number s (Ieee.Toward.down.cut s (m <<< e.toNat) (-e).toNat) 0)) .i64 = some n
  have hq : Ieee.Toward.down.cut s (m <<< e.toNat) (-e).toNat ≤ 1048577 := Nat.le_trans (cut_down_le _ _ _) (Nat.add_le_add_right (whole_bd hb) 1)
  generalize Ieee.Toward.down.cut s (m <<< e.toNat) (-e).toNat = q at *
  by_cases h0 : q = 0
  · subst h0
    have hd2 := decode_encode64_zero (s := s) (e := 0)
    refine ⟨_, trunc_near hd2 ?_⟩
    rw [Nat.zero_shiftLeft, Nat.shiftLeft_eq]
    exact Nat.mul_pos (by omega) (Nat.two_pow_pos _)
  · have hd2 := decode_int (s := s) h0 (by omega)
    refine ⟨_, trunc_near hd2 ?_⟩
    have hl : q.log2 < 52 := (Nat.log2_lt h0).2 (by have : 2 ^ 52 = 4503599627370496 := rfl; omega)
    have e1 : min (0 - ((52 - q.log2 : Nat) : Int)) 0 = 0 - ((52 - q.log2 : Nat) : Int) := by omega
    rw [e1]
    have e2 : (0 - ((52 - q.log2 : Nat) : Int) - (0 - ((52 - q.log2 : Nat) : Int))).toNat = 0 := by omega
    have e3 : ((0 : Int) - (0 - ((52 - q.log2 : Nat) : Int))).toNat = 52 - q.log2 := by omega
    rw [e2, e3, Nat.shiftLeft_zero, Nat.shiftLeft_eq]
    exact Nat.mul_lt_mul_of_pos_right (by omega) (Nat.two_pow_pos _)
theorem ten_ex {m : Nat} {e : Int} (h1 : 4503599627370496 ≤ m) (h2 : m < 9007199254740992) (he : e.natAbs ≤ 256) : ∃ b n s' m' e', tenV (logOf (logS (fv .f64 (wd m (endK m)))) e) = some b ∧ FloatKind.f64.decode b = .number s' m' e' ∧ floatToIntVal .f64 (floorB b) .i64 = some n := by
  obtain ⟨b, s, m', e', hv, hd, hb⟩ := (bs_ten h1 h2 he).ex
  obtain ⟨n, hn⟩ := floor_int hd (bd_mono hb (by omega))
  exact ⟨b, n, s, m', e', hv, hd, hn⟩
end Go.Proofs.Ytnjkpapjioeffac
