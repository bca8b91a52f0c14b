/- Bounds on 32-bit floats, plainly: positive ones from below and above, finite ones; the logarithm of a positive one is finite. -/
import Derived.Test.YtplngjbllllanaaFlg
import Derived.Test.YtplngjbllllanaaCfp
namespace Go.Proofs.Ytplngjbllllanaa
open Go Go.RowKit Go.Proofs.Ytplngjbllllanaa.Flo
set_option linter.unusedVariables false

/-- a positive 32-bit float from 2 ^ a to 2 ^ b -/
def Ps (v : Option Nat) (a b : Int) : Prop := ∃ c m e, v = some c ∧ FloatKind.f32.decode c = .number false m e ∧ m ≠ 0 ∧ a ≤ e + m.log2 ∧ bd m e b
/-- a finite float, at most 2 ^ b -/
def Fb (k : FloatKind) (v : Option Nat) (b : Int) : Prop := ∃ c s m e, v = some c ∧ k.decode c = .number s m e ∧ bd m e b
theorem Ps.fb {v : Option Nat} {a b : Int} (h : Ps v a b) : Fb .f32 v b := by
  obtain ⟨c, m, e, h1, h2, _, _, h5⟩ := h
  exact ⟨c, false, m, e, h1, h2, h5⟩
theorem Ps.le {v : Option Nat} {a b : Int} (h : Ps v a b) : a ≤ b := by
  obtain ⟨c, m, e, h1, h2, h3, h4, h5⟩ := h
  have := bd_log h3 h5
  omega
theorem Ps.mono {v : Option Nat} {a b a' b' : Int} (h : Ps v a b) (h1 : a' ≤ a) (h2 : b ≤ b') : Ps v a' b' := by
  obtain ⟨c, m, e, g1, g2, g3, g4, g5⟩ := h
  exact ⟨c, m, e, g1, g2, g3, by omega, bd_mono g5 h2⟩
theorem Fb.mono {k : FloatKind} {v : Option Nat} {b b' : Int} (h : Fb k v b) (h2 : b ≤ b') : Fb k v b' := by
  obtain ⟨c, s, m, e, g1, g2, g3⟩ := h
  exact ⟨c, s, m, e, g1, g2, bd_mono g3 h2⟩
theorem Fb.fin {v : Option Nat} {b : Int} (h : Fb .f32 v b) : ∃ c, v = some c ∧ isFin .f32 c = true := by
  obtain ⟨c, s, m, e, g1, g2, g3⟩ := h
  exact ⟨c, g1, by unfold isFin; rw [g2]⟩
theorem Ps.fin {v : Option Nat} {a b : Int} (h : Ps v a b) : ∃ c, v = some c ∧ isFin .f32 c = true := h.fb.fin
theorem Ps.const {c m : Nat} {e a b : Int} (h : FloatKind.f32.decode c = .number false m e) (h0 : m ≠ 0) (ha : a ≤ e + m.log2) (hb : bd m e b) : Ps (some c) a b := ⟨c, m, e, rfl, h, h0, ha, hb⟩

theorem ps_near {m : Nat} {e a b : Int} (h0 : m ≠ 0) (ha : a ≤ e + m.log2) (hb : bd m e b) (h1 : -126 ≤ a) (h2 : b ≤ 127) : Ps (some (FloatKind.f32.format.nearest false m e)) a b := by
  have hl := bd_log h0 hb
  obtain ⟨m', e', g1, g2, g3, g4⟩ := nearest_both false ha h0 h1 hb (by omega) h2
  exact ⟨_, m', e', rfl, g1, g2, g3, g4⟩
theorem fb_near {s : Bool} {m : Nat} {e b : Int} (hb : bd m e b) (h1 : -126 ≤ b) (h2 : b ≤ 127) : Fb .f32 (some (FloatKind.f32.format.nearest s m e)) b := by
  obtain ⟨r1, r2⟩ := f32_room h1 h2
  obtain ⟨m', e', g1, g2⟩ := nearest_bd FloatKind.f32.format s hb r1 r2
  exact ⟨_, s, m', e', rfl, g1, g2⟩

theorem log2_mul_ge {m n : Nat} (hm : m ≠ 0) (hn : n ≠ 0) : m.log2 + n.log2 ≤ (m * n).log2 := by
  refine (Nat.le_log2 (Nat.mul_ne_zero hm hn)).2 ?_
  rw [Nat.pow_add]
  exact Nat.mul_le_mul (log2_bounds hm).1 (log2_bounds hn).1

theorem Ps.mul {x y : Option Nat} {a b c d : Int} (h : Ps x a b) (h' : Ps y c d) (h1 : -126 ≤ a + c) (h2 : b + d ≤ 127) : Ps (fop .mul .f32 x y) (a + c) (b + d) := by
  obtain ⟨x, m, i, rfl, d1, m0, l1, b1⟩ := h
  obtain ⟨y, n, j, rfl, d2, n0, l2, b2⟩ := h'
  have e : fop .mul .f32 (some x) (some y) = ((FloatKind.f32.decode x).product (FloatKind.f32.decode y)).map FloatKind.f32.format.write := rfl
  rw [e, d1, d2]
  have := log2_mul_ge m0 n0
  exact ps_near (Nat.mul_ne_zero m0 n0) (by omega) (bd_mul b1 b2) h1 h2
theorem Fb.mul {x y : Option Nat} {b d : Int} (h : Fb .f32 x b) (h' : Fb .f32 y d) (h1 : -126 ≤ b + d) (h2 : b + d ≤ 127) : Fb .f32 (fop .mul .f32 x y) (b + d) := by
  obtain ⟨x, s, m, i, rfl, d1, b1⟩ := h
  obtain ⟨y, t, n, j, rfl, d2, b2⟩ := h'
  have e : fop .mul .f32 (some x) (some y) = ((FloatKind.f32.decode x).product (FloatKind.f32.decode y)).map FloatKind.f32.format.write := rfl
  rw [e, d1, d2]
  exact fb_near (bd_mul b1 b2) h1 h2

theorem Ps.add {x y : Option Nat} {a b c d : Int} (h : Ps x a b) (h' : Ps y c d) {t : Int} (g1 : b ≤ t) (g2 : d ≤ t) (h1 : -126 ≤ a) (h2 : t ≤ 126) : Ps (fop .add .f32 x y) a (t + 1) := by
  obtain ⟨x, m, i, rfl, d1, m0, l1, b1⟩ := h
  obtain ⟨y, n, j, rfl, d2, n0, l2, b2⟩ := h'
  have e : fop .add .f32 (some x) (some y) = ((FloatKind.f32.decode x).sum (FloatKind.f32.decode y)).map FloatKind.f32.format.write := rfl
  rw [e, d1, d2]
  have hbs := bd_sum (s := false) (s' := false) (bd_mono b1 g1) (bd_mono b2 g2)
  unfold Ieee.Datum.sum
  simp only
  generalize hbase : min i j = base at *
  have hS1 : Ieee.signed false m (i - base).toNat = ((m * 2 ^ (i - base).toNat : Nat) : Int) := by unfold Ieee.signed; rw [Nat.shiftLeft_eq]; rfl
  have hS2 : Ieee.signed false n (j - base).toNat = ((n * 2 ^ (j - base).toNat : Nat) : Int) := by unfold Ieee.signed; rw [Nat.shiftLeft_eq]; rfl
  have hge : 2 ^ (m.log2 + (i - base).toNat) ≤ m * 2 ^ (i - base).toNat := by
    rw [Nat.pow_add]; exact Nat.mul_le_mul_right _ (log2_bounds m0).1
  have hp := Nat.two_pow_pos (m.log2 + (i - base).toNat)
  generalize hT : Ieee.signed false m (i - base).toNat + Ieee.signed false n (j - base).toNat = T at *
  have hTe : T = ((m * 2 ^ (i - base).toNat + n * 2 ^ (j - base).toNat : Nat) : Int) := by rw [← hT, hS1, hS2]; exact (Int.natCast_add ..).symm
  generalize m * 2 ^ (i - base).toNat = A at *
  generalize n * 2 ^ (j - base).toNat = B at *
  have n1 : ¬ T = 0 := by omega
  have n2 : decide (T < 0) = false := decide_eq_false (by omega)
  rw [if_neg n1, n2]
  have hne : T.natAbs ≠ 0 := by omega
  have hlo : m.log2 + (i - base).toNat ≤ T.natAbs.log2 := (Nat.le_log2 hne).2 (by omega)
  exact ps_near hne (by omega) hbs h1 (by omega)

theorem Ps.quo {x y : Option Nat} {a b c d : Int} (h : Ps x a b) (h' : Ps y c d) (h1 : -126 ≤ a - d - 1) (h2 : b - c ≤ 127) : Ps (fop .quo .f32 x y) (a - d - 1) (b - c) := by
  obtain ⟨x, m, i, rfl, d1, m0, l1, b1⟩ := h
  obtain ⟨y, n, j, rfl, d2, n0, l2, b2⟩ := h'
  have e : fop .quo .f32 (some x) (some y) = ((FloatKind.f32.decode x).quotient 25 (FloatKind.f32.decode y)).map FloatKind.f32.format.write := rfl
  rw [e, d1, d2]
  simp only [Ieee.Datum.quotient, if_neg n0]
  have hq := bd_quo25 (j := j) n0 b1
  have hm24 := log2_lt24 m0 (decode32_number d1).1
  have hld := bd_log n0 b2
  generalize hmore : 25 + n.log2 - m.log2 = more at *
  have hD : 2 ^ (n.log2 + 25) ≤ m <<< more := by
    rw [Nat.shiftLeft_eq]
    calc 2 ^ (n.log2 + 25) = 2 ^ m.log2 * 2 ^ more := by rw [← Nat.pow_add]; congr 1; omega
      _ ≤ _ := Nat.mul_le_mul_right _ (log2_bounds m0).1
  have hQ : 2 ^ 24 ≤ (m <<< more) / n := by
    rw [Nat.le_div_iff_mul_le (Nat.pos_of_ne_zero n0)]
    calc 2 ^ 24 * n ≤ 2 ^ 24 * 2 ^ (n.log2 + 1) := Nat.mul_le_mul_left _ (Nat.le_of_lt (log2_bounds n0).2)
      _ = 2 ^ (n.log2 + 25) := by rw [← Nat.pow_add]; congr 1; omega
      _ ≤ _ := hD
  generalize (m <<< more) / n = Q at *
  generalize ((m <<< more) % n != 0).toNat = S at *
  have hne : 2 * Q + S ≠ 0 := by have := Nat.two_pow_pos 24; omega
  have hl : 25 ≤ (2 * Q + S).log2 := (Nat.le_log2 hne).2 (by have : 2 ^ 25 = 2 * 2 ^ 24 := rfl; omega)
  exact ps_near hne (by omega) (bd_mono hq (by omega)) h1 h2
theorem Fb.quo {x y : Option Nat} {b c d : Int} (h : Fb .f32 x b) (h' : Ps y c d) (h1 : -126 ≤ b - c) (h2 : b - c ≤ 127) : Fb .f32 (fop .quo .f32 x y) (b - c) := by
  obtain ⟨x, s, m, i, rfl, d1, b1⟩ := h
  obtain ⟨y, n, j, rfl, d2, n0, l2, b2⟩ := h'
  have e : fop .quo .f32 (some x) (some y) = ((FloatKind.f32.decode x).quotient 25 (FloatKind.f32.decode y)).map FloatKind.f32.format.write := rfl
  rw [e, d1, d2]
  simp only [Ieee.Datum.quotient, if_neg n0]
  exact fb_near (bd_mono (bd_quo25 (j := j) n0 b1) (by omega)) h1 h2

/-- an integer's float -/
theorem ps_int {n : Int} {k l : Nat} (h0 : (2 ^ k : Nat) ≤ n) (h1 : n ≤ (2 ^ l : Nat)) (hl : l ≤ 32) : Ps (fv .f32 (floatOfInt .f32 n)) k l := by
  have hp := Nat.two_pow_pos k
  have hfi : floatOfInt .f32 n = FloatKind.f32.format.nearest (decide (n < 0)) n.natAbs 0 := rfl
  have hd : decide (n < 0) = false := decide_eq_false (by omega)
  have hne : n.natAbs ≠ 0 := by omega
  have hlo : k ≤ n.natAbs.log2 := (Nat.le_log2 hne).2 (by omega)
  have := ps_near (m := n.natAbs) (e := 0) (a := k) (b := l) hne (by omega) (.inr ⟨by omega, by
    have e : ((l : Int) - 0).toNat = l := by omega
    rw [e]; omega⟩) (by omega) (by omega)
  rw [hfi, hd]
  obtain ⟨c, m, e, g1, g2, g3, g4, g5⟩ := this
  rw [← Option.some.inj g1] at g2
  exact ⟨_, m, e, fv_some (by rw [g2]; rfl), g2, g3, g4, g5⟩

/-- f64: sums, products, quotients of numbers are no NaNs -/
theorem some_add {op : BinOp} (hop : op = .add ∨ op = .sub) {x y : Option Nat} {b c : Int} (h : Fb .f64 x b) (h' : Fb .f64 y c) : ∃ r, fop op .f64 x y = some r := by
  obtain ⟨x, s, m, i, rfl, d1, _⟩ := h
  obtain ⟨y, t, n, j, rfl, d2, _⟩ := h'
  rcases hop with rfl | rfl
  · have e : fop .add .f64 (some x) (some y) = ((FloatKind.f64.decode x).sum (FloatKind.f64.decode y)).map FloatKind.f64.format.write := rfl
    rw [e, d1, d2]; exact ⟨_, rfl⟩
  · have e : fop .sub .f64 (some x) (some y) = ((FloatKind.f64.decode x).sum (FloatKind.f64.decode y).opposite).map FloatKind.f64.format.write := rfl
    rw [e, d1, d2]; exact ⟨_, rfl⟩
theorem some_mul {x y : Option Nat} {b c : Int} (h : Fb .f64 x b) (h' : Fb .f64 y c) : ∃ r, fop .mul .f64 x y = some r := by
  obtain ⟨x, s, m, i, rfl, d1, _⟩ := h
  obtain ⟨y, t, n, j, rfl, d2, _⟩ := h'
  have e : fop .mul .f64 (some x) (some y) = ((FloatKind.f64.decode x).product (FloatKind.f64.decode y)).map FloatKind.f64.format.write := rfl
  rw [e, d1, d2]; exact ⟨_, rfl⟩
theorem Fb.bd64 {x : Option Nat} {b : Int} (h : Fb .f64 x b) : Bd .f64 x b := by
  obtain ⟨x, s, m, i, rfl, d1, h1⟩ := h
  exact Bd.const d1 h1
theorem Bd.fb64 {x : Option Nat} {b : Int} (h : Bd .f64 x b) (hs : ∃ r, x = some r) : Fb .f64 x b := by
  obtain ⟨r, rfl⟩ := hs
  obtain ⟨s, m, e, h1, h2⟩ := h r rfl
  exact ⟨r, s, m, e, rfl, h1, h2⟩
theorem Fb.add64 {x y : Option Nat} {c : Int} (h : Fb .f64 x c) (h' : Fb .f64 y c) (h1 : -1023 ≤ c) (h2 : c ≤ 1022) : Fb .f64 (fop .add .f64 x y) (c + 1) := Bd.fb64 (Bd.add h.bd64 h'.bd64 h1 h2) (some_add (.inl rfl) h h')
theorem Fb.sub64 {x y : Option Nat} {c : Int} (h : Fb .f64 x c) (h' : Fb .f64 y c) (h1 : -1023 ≤ c) (h2 : c ≤ 1022) : Fb .f64 (fop .sub .f64 x y) (c + 1) := Bd.fb64 (Bd.sub h.bd64 h'.bd64 h1 h2) (some_add (.inr rfl) h h')
theorem Fb.mul64 {x y : Option Nat} {a b : Int} (h : Fb .f64 x a) (h' : Fb .f64 y b) (h1 : -1022 ≤ a + b) (h2 : a + b ≤ 1023) : Fb .f64 (fop .mul .f64 x y) (a + b) := Bd.fb64 (Bd.mul h.bd64 h'.bd64 h1 h2) (some_mul h h')
theorem Fb.quo64 {x y : Option Nat} {a q c : Int} (h : Fb .f64 x a) (h' : Fb .f64 y c) (hy : Lo y q) (h1 : -1022 ≤ a - q) (h2 : a - q ≤ 1023) : Fb .f64 (fop .quo .f64 x y) (a - q) := by
  refine Bd.fb64 (Bd.quo_lo h.bd64 hy h1 h2) ?_
  obtain ⟨x, s, m, i, rfl, d1, _⟩ := h
  obtain ⟨y, t, n, j, rfl, d2, _⟩ := h'
  obtain ⟨s2, n2, j2, d3, hn, _⟩ := hy y rfl
  rw [d2] at d3
  obtain ⟨rfl, rfl, rfl⟩ := Ieee.Datum.number.inj d3
  have e : fop .quo .f64 (some x) (some y) = ((FloatKind.f64.decode x).quotient 54 (FloatKind.f64.decode y)).map FloatKind.f64.format.write := rfl
  rw [e, d1, d2]
  simp only [Ieee.Datum.quotient, if_neg hn]
  exact ⟨_, rfl⟩
theorem Fb.const64 {b : Nat} {s : Bool} {m : Nat} {e t : Int} (h : FloatKind.f64.decode b = .number s m e) (hb : bd m e t) : Fb .f64 (some b) t := ⟨b, s, m, e, rfl, h, hb⟩
theorem fb_one : Fb .f64 cOne 0 := Bd.fb64 bd_one ⟨_, one_some⟩
theorem fb_logP_step {u : Option Nat} {j : Nat} {b : Int} {c n : Nat} {e : Int} (hu : Fb .f64 u 4) (hp : Fb .f64 (logP u j) b) (hc : fv .f64 (floatOfInt .f64 (25 - 2 * (j : Int))) = some c) (hd : FloatKind.f64.decode c = .number false n e) (hn : n ≠ 0) (hq : 0 ≤ e + n.log2) (hq' : e + n.log2 ≤ 12) (hb0 : 0 ≤ b) (hb : b ≤ 500) :
    Fb .f64 (logP u (j + 1)) (b + 5) := by
  show Fb .f64 (fop .add .f64 (fop .quo .f64 cOne (fv .f64 (floatOfInt .f64 (25 - 2 * (j : Int))))) (fop .mul .f64 u (logP u j))) _
  rw [hc]
  have h1 := Fb.mul64 hu hp (by omega) (by omega)
  have h0 : Fb .f64 (some c) (e + n.log2 + 1) := Fb.const64 hd (.inr ⟨by omega, Nat.le_trans (Nat.le_of_lt (log2_bounds hn).2) (Nat.pow_le_pow_right (by omega) (by omega))⟩)
  have h2 := Fb.quo64 fb_one h0 (q := 0) (fun b hb => by cases hb; exact ⟨_, _, _, hd, hn, hq⟩) (by omega) (by omega)
  exact Fb.mono (Fb.add64 (c := 4 + b) (Fb.mono h2 (by omega)) h1 (by omega) (by omega)) (by omega)
theorem fb_logP {u : Option Nat} (hu : Fb .f64 u 4) : Fb .f64 (logP u 13) 65 := by
  have s0 : Fb .f64 (logP u 0) 0 := Fb.const64 (b := 0) (s := false) (m := 0) (e := -1074) (by kernel_rfl) (.inl rfl)
  have s1 := fb_logP_step (c := 4627730092099895296) (n := 7036874417766400) (e := -48) hu s0 (by kernel_rfl) (by kernel_rfl) (by omega) (by decide +kernel) (by decide +kernel) (by omega) (by omega)
  have s2 := fb_logP_step (c := 4627167142146473984) (n := 6473924464345088) (e := -48) hu s1 (by kernel_rfl) (by kernel_rfl) (by omega) (by decide +kernel) (by decide +kernel) (by omega) (by omega)
  have s3 := fb_logP_step (c := 4626604192193052672) (n := 5910974510923776) (e := -48) hu s2 (by kernel_rfl) (by kernel_rfl) (by omega) (by decide +kernel) (by decide +kernel) (by omega) (by omega)
  have s4 := fb_logP_step (c := 4626041242239631360) (n := 5348024557502464) (e := -48) hu s3 (by kernel_rfl) (by kernel_rfl) (by omega) (by decide +kernel) (by decide +kernel) (by omega) (by omega)
  have s5 := fb_logP_step (c := 4625478292286210048) (n := 4785074604081152) (e := -48) hu s4 (by kernel_rfl) (by kernel_rfl) (by omega) (by decide +kernel) (by decide +kernel) (by omega) (by omega)
  have s6 := fb_logP_step (c := 4624633867356078080) (n := 8444249301319680) (e := -49) hu s5 (by kernel_rfl) (by kernel_rfl) (by omega) (by decide +kernel) (by decide +kernel) (by omega) (by omega)
  have s7 := fb_logP_step (c := 4623507967449235456) (n := 7318349394477056) (e := -49) hu s6 (by kernel_rfl) (by kernel_rfl) (by omega) (by decide +kernel) (by decide +kernel) (by omega) (by omega)
  have s8 := fb_logP_step (c := 4622382067542392832) (n := 6192449487634432) (e := -49) hu s7 (by kernel_rfl) (by kernel_rfl) (by omega) (by decide +kernel) (by decide +kernel) (by omega) (by omega)
  have s9 := fb_logP_step (c := 4621256167635550208) (n := 5066549580791808) (e := -49) hu s8 (by kernel_rfl) (by kernel_rfl) (by omega) (by decide +kernel) (by decide +kernel) (by omega) (by omega)
  have s10 := fb_logP_step (c := 4619567317775286272) (n := 7881299347898368) (e := -50) hu s9 (by kernel_rfl) (by kernel_rfl) (by omega) (by decide +kernel) (by decide +kernel) (by omega) (by omega)
  have s11 := fb_logP_step (c := 4617315517961601024) (n := 5629499534213120) (e := -50) hu s10 (by kernel_rfl) (by kernel_rfl) (by omega) (by decide +kernel) (by decide +kernel) (by omega) (by omega)
  have s12 := fb_logP_step (c := 4613937818241073152) (n := 6755399441055744) (e := -51) hu s11 (by kernel_rfl) (by kernel_rfl) (by omega) (by decide +kernel) (by decide +kernel) (by omega) (by omega)
  have s13 := fb_logP_step (c := 4607182418800017408) (n := 4503599627370496) (e := -52) hu s12 (by kernel_rfl) (by kernel_rfl) (by omega) (by decide +kernel) (by decide +kernel) (by omega) (by omega)
  exact s13
theorem fb_int64 {e : Int} (h : e.natAbs ≤ 256) : Fb .f64 (fv .f64 (floatOfInt .f64 e)) 9 := by
  refine Bd.fb64 (bd_int h) ?_
  have hfi : floatOfInt .f64 e = FloatKind.f64.encode (.number (decide (e < 0)) e.natAbs 0) := rfl
  rw [hfi]
  by_cases h0 : e.natAbs = 0
  · rw [h0]
    have hd := decode_encode64_zero (s := decide (e < 0)) (e := 0)
    rw [fv_num hd]
    exact ⟨_, rfl⟩
  · have hd := decode_int (s := decide (e < 0)) h0 (by omega)
    rw [fv_num hd]
    exact ⟨_, rfl⟩
theorem fb_logOf {m : Nat} {e : Int} (h1 : 4503599627370496 ≤ m) (h2 : m < 9007199254740992) (he : e.natAbs ≤ 256) : Fb .f64 (logOf (logS (fv .f64 (wd m (endK m)))) e) 80 := by
  have hk : endK m = -52 ∨ endK m = -53 := by unfold endK; split <;> omega
  have hd := decode_wd h1 h2 (k := endK m) (by omega) (by omega)
  rw [fv_num hd]
  have hx : Fb .f64 (some (wd m (endK m))) 1 := Fb.const64 hd (.inr ⟨by omega, by
    have h3 : m ≤ 2 ^ 53 := by have : 2 ^ 53 = 9007199254740992 := rfl; rw [this]; omega
    exact Nat.le_trans h3 (Nat.pow_le_pow_right (by omega) (by omega))⟩)
  have hn : Nn (some (wd m (endK m))) := fun b hb => by cases hb; exact ⟨_, _, _, hd, .inl rfl⟩
  have hs : Fb .f64 (logS (some (wd m (endK m)))) 2 := by
    unfold logS
    have a1 := Fb.sub64 (c := 1) hx (Fb.mono fb_one (by omega)) (by omega) (by omega)
    have a2 := (one_add hx.bd64 hn (by omega) (by omega)).1
    rw [fop_add_comm] at a2
    have a3 := Fb.add64 (c := 1) hx (Fb.mono fb_one (by omega)) (by omega) (by omega)
    exact Fb.quo64 a1 a3 a2 (by omega) (by omega)
  generalize logS (some (wd m (endK m))) = s at *
  unfold logOf
  have hu := Fb.mul64 hs hs (by omega) (by omega)
  have hq := Fb.mul64 hs (fb_logP hu) (by omega) (by omega)
  have h2' : Fb .f64 cTwo 1 := by rw [two_some]; exact Fb.const64 (b := 4611686018427387904) (s := false) (m := 4503599627370496) (e := -51) (by kernel_rfl) (.inr ⟨by omega, by decide +kernel⟩)
  have hl : Fb .f64 cLn2 0 := by
    have e1 : cLn2 = some 4604418534313441775 := by kernel_rfl
    rw [e1]; exact Fb.const64 (b := 4604418534313441775) (s := false) (m := 6243314768165359) (e := -53) (by kernel_rfl) (.inr ⟨by omega, by decide +kernel⟩)
  have h3 := Fb.mul64 h2' hq (by omega) (by omega)
  have h4 := Fb.mul64 (fb_int64 he) hl (by omega) (by omega)
  exact Fb.mono (Fb.add64 (c := 70) (Fb.mono h3 (by omega)) (Fb.mono h4 (by omega)) (by omega) (by omega)) (by omega)
/-- a number within 2 ^ 127, narrowed, is finite -/
theorem Fb.slim {v : Option Nat} {t : Int} (h : Fb .f64 v t) (h1 : -126 ≤ t) (ht : t ≤ 127) : Fb .f32 (slim v) t := by
  obtain ⟨b, s, m, e, rfl, hd, hb⟩ := h
  obtain ⟨r1, r2⟩ := f32_room h1 ht
  obtain ⟨m', e', g1, g2⟩ := nearest_bd FloatKind.f32.format s hb r1 r2
  have g1' : FloatKind.f32.decode (FloatKind.f32.encode (.number s m e)) = .number s m' e' := g1
  have : Flo.slim (some b) = some (FloatKind.f32.encode (.number s m e)) := by
    show floatToFloatBits .f64 b .f32 = _
    unfold floatToFloatBits
    rw [if_neg (by decide), hd]
    simp only
    rw [if_neg (by rw [g1']; simp [Ieee.Datum.isInfinity])]
  rw [this]
  exact ⟨_, s, m', e', rfl, g1', g2⟩
/-- less than one, by the comparison, leaves a positive number -/
theorem one_dec32 : FloatKind.f32.decode 1065353216 = .number false 8388608 (-23) := by kernel_rfl
theorem one_minus {v : Option Nat} {a : Int} (h : Ps v a 0) (ha : -20 ≤ a) (h1 : ∀ c, v = some c → (FloatKind.f32.format.order c 1065353216 == some .eq) = false) : Ps (fop .sub .f32 (some 1065353216) v) (-60) 1 := by
  obtain ⟨x, m, i, rfl, d1, m0, l1, b1⟩ := h
  have ho := h1 x rfl
  clear h1
  have hm24 := log2_lt24 m0 (decode32_number d1).1
  have e : fop .sub .f32 (some 1065353216) (some x) = ((FloatKind.f32.decode 1065353216).sum (FloatKind.f32.decode x).opposite).map FloatKind.f32.format.write := rfl
  have eo : FloatKind.f32.format.order x 1065353216 = (FloatKind.f32.decode x).order (FloatKind.f32.decode 1065353216) := rfl
  rw [eo, d1, one_dec32] at ho
  rw [e, d1, one_dec32]
  have hb0 : bd 8388608 (-23) 0 := .inr ⟨by omega, by decide +kernel⟩
  have hbs := bd_sum (s := false) (s' := true) hb0 b1
  unfold Ieee.Datum.opposite Ieee.Datum.sum
  unfold Ieee.Datum.order at ho
  simp only at ho ⊢
  rw [Int.min_comm i (-23)] at ho
  have hbb : min (-23 : Int) i ≤ i := Int.min_le_right ..
  have hbc : -45 ≤ min (-23 : Int) i := by omega
  have hbd : min (-23 : Int) i ≤ -23 := Int.min_le_left ..
  generalize hbase : min (-23 : Int) i = base at *
  have hS1 : Ieee.signed false 8388608 (-23 - base).toNat = ((2 ^ (0 - base).toNat : Nat) : Int) := by
    unfold Ieee.signed; rw [Nat.shiftLeft_eq]
    have : 8388608 * 2 ^ (-23 - base).toNat = 2 ^ (0 - base).toNat := by
      have h23 : (8388608 : Nat) = 2 ^ 23 := rfl
      rw [h23, ← Nat.pow_add]; congr 1; omega
    rw [this]; rfl
  have hS2 : Ieee.signed false m (i - base).toNat = ((m * 2 ^ (i - base).toNat : Nat) : Int) := by unfold Ieee.signed; rw [Nat.shiftLeft_eq]; rfl
  have hS3 : Ieee.signed (!false) m (i - base).toNat = -((m * 2 ^ (i - base).toNat : Nat) : Int) := by unfold Ieee.signed; rw [Nat.shiftLeft_eq]; rfl
  have hle : m * 2 ^ (i - base).toNat ≤ 2 ^ (0 - base).toNat := by
    rcases b1 with h | ⟨h1, h2⟩
    · exact absurd h m0
    · calc m * 2 ^ (i - base).toNat ≤ 2 ^ (0 - i).toNat * 2 ^ (i - base).toNat := Nat.mul_le_mul_right _ h2
        _ = 2 ^ (0 - base).toNat := by rw [← Nat.pow_add]; congr 1; omega
  rw [hS1, hS2] at ho
  have hbs2 : bd (Ieee.signed false 8388608 (-23 - base).toNat + Ieee.signed (!false) m (i - base).toNat).natAbs base 1 := hbs
  rw [hS1, hS3] at hbs2 ⊢
  generalize m * 2 ^ (i - base).toNat = A at *
  generalize 2 ^ (0 - base).toNat = B at *
  have hAB : A ≠ B := by
    intro hAB
    rw [hAB] at ho
    have hc : compare (B : Int) (B : Int) = .eq := by rw [Int.compare_eq_eq]
    rw [hc] at ho
    simp at ho
  have n1 : ¬ ((B : Int) + -(A : Int) = 0) := by omega
  have n2 : decide ((B : Int) + -(A : Int) < 0) = false := decide_eq_false (by omega)
  rw [if_neg n1, n2]
  exact ps_near (by omega) (by omega) hbs2 (by omega) (by omega)
end Go.Proofs.Ytplngjbllllanaa
