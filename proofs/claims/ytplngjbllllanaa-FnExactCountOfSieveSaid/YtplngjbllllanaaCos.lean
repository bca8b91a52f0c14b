/- CountOfSieve: both sides. -/
import Derived.Test.YtplngjbllllanaaPlg
import Derived.Test.YtplngjbllllanaaCol
import Derived.Test.YtplngjbllllanaaFum
namespace Go.Proofs.Ytplngjbllllanaa
open Go.ChangeShapes Go.WideShapes Go.ChangeAt Go.RowKit Go.Proofs.Ytplngjbllllanaa.Flo
set_option linter.unusedVariables false
attribute [local go_sem] unary_neg_float run_conv run_store_float run_store_complex
theorem bd_quo1 {m n : Nat} {i j : Int} (hn : n ≠ 0) (hle : m <<< (i - min i j).toNat ≤ n <<< (j - min i j).toNat) :
    bd (2 * ((m <<< (25 + n.log2 - m.log2)) / n) + ((m <<< (25 + n.log2 - m.log2)) % n != 0).toNat) (i - j - (25 + n.log2 - m.log2 : Nat) - 1) 0 := by
  by_cases h0 : m = 0
  · subst h0
    left
    rw [Nat.shiftLeft_eq, Nat.zero_mul, Nat.zero_div, Nat.zero_mod]
    rfl
  · have hij : i - j ≤ (n.log2 : Int) - m.log2 := by
      rw [Nat.shiftLeft_eq, Nat.shiftLeft_eq] at hle
      obtain ⟨l1, _⟩ := log2_bounds h0
      obtain ⟨_, l2⟩ := log2_bounds hn
      have hlt : 2 ^ (m.log2 + (i - min i j).toNat) < 2 ^ (n.log2 + 1 + (j - min i j).toNat) := by
        rw [Nat.pow_add, Nat.pow_add]
        calc 2 ^ m.log2 * 2 ^ (i - min i j).toNat ≤ m * 2 ^ (i - min i j).toNat := Nat.mul_le_mul_right _ l1
          _ ≤ n * 2 ^ (j - min i j).toNat := hle
          _ < 2 ^ (n.log2 + 1) * 2 ^ (j - min i j).toNat := Nat.mul_lt_mul_of_pos_right l2 (Nat.two_pow_pos _)
      have := (Nat.pow_lt_pow_iff_right (by omega : 1 < 2)).1 hlt
      omega
    generalize hmore : 25 + n.log2 - m.log2 = more
    have hE : 0 ≤ (more : Int) + j - i := by omega
    have hD : m <<< more ≤ n * 2 ^ ((more : Int) + j - i).toNat := by
      rw [Nat.shiftLeft_eq, Nat.shiftLeft_eq] at hle
      rw [Nat.shiftLeft_eq]
      have hc : m * 2 ^ more * 2 ^ (i - min i j).toNat ≤ n * 2 ^ ((more : Int) + j - i).toNat * 2 ^ (i - min i j).toNat := by
        calc m * 2 ^ more * 2 ^ (i - min i j).toNat = m * 2 ^ (i - min i j).toNat * 2 ^ more := by rw [Nat.mul_assoc, Nat.mul_comm (2 ^ more), ← Nat.mul_assoc]
          _ ≤ n * 2 ^ (j - min i j).toNat * 2 ^ more := Nat.mul_le_mul_right _ hle
          _ = n * 2 ^ ((more : Int) + j - i).toNat * 2 ^ (i - min i j).toNat := by rw [Nat.mul_assoc, Nat.mul_assoc, ← Nat.pow_add, ← Nat.pow_add]; congr 2; omega
      exact Nat.le_of_mul_le_mul_right hc (Nat.two_pow_pos _)
    generalize m <<< more = D at *
    generalize hX : ((more : Int) + j - i).toNat = X at *
    right
    refine ⟨by omega, ?_⟩
    have e : (0 - (i - j - (more : Int) - 1)).toNat = X + 1 := by omega
    rw [e, Nat.pow_succ]
    by_cases hr : D % n = 0
    · rw [hr]
      have : D / n ≤ 2 ^ X := Nat.div_le_of_le_mul hD
      simp; omega
    · have hlt : D < n * 2 ^ X := by
        refine Nat.lt_of_le_of_ne hD (fun he => hr ?_)
        rw [he, Nat.mul_mod_right]
      have : D / n < 2 ^ X := Nat.div_lt_of_lt_mul hlt
      have hb : (D % n != 0).toNat ≤ 1 := by cases (D % n != 0) <;> simp
      omega
theorem Ps.quo1 {x y : Option Nat} {a b c d : Int} (h : Ps x a b) (h' : Ps y c d) (hle : ∀ m i n j p q, x = some p → y = some q → FloatKind.f32.decode p = .number false m i → FloatKind.f32.decode q = .number false n j → m <<< (i - min i j).toNat ≤ n <<< (j - min i j).toNat) (h1 : -126 ≤ a - d - 1) : Ps (fop .quo .f32 x y) (a - d - 1) 0 := by
  obtain ⟨x, m, i, rfl, d1, m0, l1, b1⟩ := h
  obtain ⟨y, n, j, rfl, d2, n0, l2, b2⟩ := h'
  have e : fop .quo .f32 (some x) (some y) = ((FloatKind.f32.decode x).quotient 25 (FloatKind.f32.decode y)).map FloatKind.f32.format.write := rfl
  rw [e, d1, d2]
  simp only [Ieee.Datum.quotient, if_neg n0]
  have hq := bd_quo1 n0 (hle m i n j x y rfl rfl d1 d2)
  have hm24 := log2_lt24 m0 (decode32_number d1).1
  have hld := bd_log n0 b2
  generalize hmore : 25 + n.log2 - m.log2 = more at *
  have hD : 2 ^ (n.log2 + 25) ≤ m <<< more := by
    rw [Nat.shiftLeft_eq]
    calc 2 ^ (n.log2 + 25) = 2 ^ m.log2 * 2 ^ more := by rw [← Nat.pow_add]; congr 1; omega
      _ ≤ _ := Nat.mul_le_mul_right _ (log2_bounds m0).1
  have hQ : 2 ^ 24 ≤ (m <<< more) / n := by
    rw [Nat.le_div_iff_mul_le (Nat.pos_of_ne_zero n0)]
    calc 2 ^ 24 * n ≤ 2 ^ 24 * 2 ^ (n.log2 + 1) := Nat.mul_le_mul_left _ (Nat.le_of_lt (log2_bounds n0).2)
      _ = 2 ^ (n.log2 + 25) := by rw [← Nat.pow_add]; congr 1; omega
      _ ≤ _ := hD
  generalize (m <<< more) / n = Q at *
  generalize ((m <<< more) % n != 0).toNat = S at *
  have hne : 2 * Q + S ≠ 0 := by have := Nat.two_pow_pos 24; omega
  have hl : 25 ≤ (2 * Q + S).log2 := (Nat.le_log2 hne).2 (by have : 2 ^ 25 = 2 * 2 ^ 24 := rfl; omega)
  exact ps_near hne (by omega) hq h1 (by omega)
theorem int_dec : ∀ q : Fin 513, q.val ≠ 0 → FloatKind.f32.decode (floatOfInt .f32 (q.val : Int)) = .number false (q.val * 2 ^ (23 - q.val.log2)) (-((23 - q.val.log2 : Nat) : Int)) := by decide +kernel
theorem int_at {q : Nat} (h0 : 1 ≤ q) (h1 : q ≤ 512) : FloatKind.f32.decode (floatOfInt .f32 (q : Int)) = .number false (q * 2 ^ (23 - q.log2)) (-((23 - q.log2 : Nat) : Int)) := int_dec ⟨q, by omega⟩ (by show q ≠ 0; omega)
theorem fI_some {q : Nat} (h0 : 1 ≤ q) (h1 : q ≤ 512) : fI q = some (floatOfInt .f32 (q : Int)) := by unfold fI; exact fv_some (by rw [int_at h0 h1]; rfl)
theorem fI_ps {q : Nat} (h0 : 1 ≤ q) (h1 : q ≤ 512) : Ps (fI q) 0 9 := ps_int (k := 0) (l := 9) (by omega) (by omega) (by omega)
theorem full_ps {c n : Nat} (h1 : 1 ≤ c) (h2 : c ≤ n) (h3 : n ≤ 512) : Ps (fop .quo .f32 (fI c) (fI n)) (-10) 0 := by
  have := Ps.quo1 (fI_ps h1 (by omega)) (fI_ps (q := n) (by omega) h3) (fun m i k j p q hp hq dp dq => by
    rw [fI_some h1 (by omega)] at hp
    rw [fI_some (q := n) (by omega) h3] at hq
    obtain rfl := Option.some.inj hp
    obtain rfl := Option.some.inj hq
    rw [int_at h1 (by omega)] at dp
    rw [int_at (q := n) (by omega) h3] at dq
    obtain ⟨_, rfl, rfl⟩ := Ieee.Datum.number.inj dp
    obtain ⟨_, rfl, rfl⟩ := Ieee.Datum.number.inj dq
    have hlc : c.log2 ≤ n.log2 := (Nat.le_log2 (by omega)).2 (Nat.le_trans (log2_bounds (by omega)).1 h2)
    have hln : n.log2 < 10 := (Nat.log2_lt (by omega)).2 (by have : 2 ^ 10 = 1024 := rfl; omega)
    have e1 : min (-((23 - c.log2 : Nat) : Int)) (-((23 - n.log2 : Nat) : Int)) = -((23 - c.log2 : Nat) : Int) := by omega
    rw [e1, Nat.shiftLeft_eq, Nat.shiftLeft_eq]
    have e2 : (-((23 - c.log2 : Nat) : Int) - -((23 - c.log2 : Nat) : Int)).toNat = 0 := by omega
    rw [e2, Nat.pow_zero, Nat.mul_one, Nat.mul_assoc, ← Nat.pow_add]
    have e3 : 23 - n.log2 + (-((23 - n.log2 : Nat) : Int) - -((23 - c.log2 : Nat) : Int)).toNat = 23 - c.log2 := by omega
    rw [e3]
    exact Nat.mul_le_mul_right _ h2) (by omega)
  exact this.mono (by omega) (by omega)
theorem full_zero {n : Nat} (h1 : 1 ≤ n) (h3 : n ≤ 512) : fop .quo .f32 (fI 0) (fI n) = some 0 := by
  rw [fI_some h1 h3]
  have e0 : fI 0 = some 0 := by kernel_rfl
  rw [e0]
  have e : fop .quo .f32 (some 0) (some (floatOfInt .f32 (n : Int))) = ((FloatKind.f32.decode 0).quotient 25 (FloatKind.f32.decode (floatOfInt .f32 (n : Int)))).map FloatKind.f32.format.write := rfl
  have ed : FloatKind.f32.decode 0 = .number false 0 (-149) := by kernel_rfl
  have hp := Nat.two_pow_pos (23 - n.log2)
  rw [e, ed, int_at h1 h3]
  have hn0 : n * 2 ^ (23 - n.log2) ≠ 0 := Nat.mul_ne_zero (by omega) (by omega)
  simp only [Ieee.Datum.quotient, if_neg hn0, Nat.shiftLeft_eq, Nat.zero_mul, Nat.zero_div, Nat.zero_mod]
  rfl
theorem neg_mod32 (b : Nat) : Op.negFloat .f32 b % 2147483648 = b % 2147483648 := by
  have e : Op.negFloat .f32 b = b ^^^ 2 ^ 31 := rfl
  have e2 : 2147483648 = 2 ^ 31 := rfl
  rw [e, e2]
  apply Nat.eq_of_testBit_eq
  intro j
  rw [Nat.testBit_mod_two_pow, Nat.testBit_mod_two_pow, Nat.testBit_xor, Nat.testBit_two_pow]
  by_cases h : j < 31
  · have : ¬ 31 = j := by omega
    simp [h, this]
  · simp [h]
theorem neg_fb {x : Nat} {t : Int} (h : Fb .f32 (some x) t) : Fb .f32 (some (Op.negFloat .f32 x)) t := by
  obtain ⟨x', s, m, e, h0, hd, hm⟩ := h
  obtain rfl := Option.some.inj h0
  obtain ⟨b, hb⟩ : ∃ b, Op.negFloat .f32 x = b := ⟨_, rfl⟩
  have h1 : FloatKind.f32.decode (b % 2147483648) = Dabs (FloatKind.f32.decode b) := read_abs Ieee.single b
  have h2 : FloatKind.f32.decode (x % 2147483648) = Dabs (FloatKind.f32.decode x) := read_abs Ieee.single x
  have h3 := neg_mod32 x
  rw [hb] at h3 ⊢
  rw [h3, h2, hd] at h1
  cases hdb : FloatKind.f32.decode b with
  | nan s t => rw [hdb] at h1; cases h1
  | infinity s => rw [hdb] at h1; cases h1
  | number s' m' e' =>
    rw [hdb] at h1
    have h1 : Ieee.Datum.number false m e = .number false m' e' := h1
    obtain ⟨_, h4, h5⟩ := Ieee.Datum.number.inj h1
    exact ⟨_, s', m', e', rfl, hdb, by rw [← h4, ← h5]; exact hm⟩
theorem zero_not_one {x : Nat} {s : Bool} {m : Nat} {e : Int} (hd : FloatKind.f32.decode x = .number s m e) (h : (FloatKind.f32.format.order x 0 == some .eq) = true) : (FloatKind.f32.format.order x 1065353216 == some .eq) = false := by
  rw [(sign_num hd).1] at h
  obtain rfl : m = 0 := of_decide_eq_true h
  have eo : FloatKind.f32.format.order x 1065353216 = (FloatKind.f32.decode x).order (FloatKind.f32.decode 1065353216) := rfl
  rw [eo, hd, one_dec32]
  unfold Ieee.Datum.order
  simp only
  have h0 : Ieee.signed s 0 (e - min e (-23)).toNat = 0 := by cases s <;> simp [Ieee.signed]
  have h1 : Ieee.signed false 8388608 (-23 - min e (-23)).toNat = ((8388608 * 2 ^ (-23 - min e (-23)).toNat : Nat) : Int) := by unfold Ieee.signed; rw [Nat.shiftLeft_eq]; rfl
  have hp := Nat.two_pow_pos (-23 - min e (-23)).toNat
  rw [h0, h1, cmp_lt (by omega)]
  rfl
def cosV (r : Nat) (bs : List Bool) : Option Nat := fop .quo .f32 (fop .mul .f32 (some (Op.negFloat .f32 (floatOfInt .f32 (bs.length : Int)))) (lnO (fop .sub .f32 (some 1065353216) (fullV bs)))) (fI r)
def cosR (R S : Int) (bs : List Bool) : Option Nat × Bool :=
  if gridB R S bs.length then (match fullV bs with
    | some x => if FloatKind.f32.format.order x 1065353216 == some .eq then (some 0, false) else if FloatKind.f32.format.order x 0 == some .eq then (some 0, true) else (cosV R.toNat bs, true)
    | none => (some 0, false)) else (some 0, false)
theorem cosR_no {R S : Int} {bs : List Bool} (h : gridB R S bs.length = false) : cosR R S bs = (some 0, false) := by unfold cosR; rw [h]; rfl
theorem cosR_one {R S : Int} {bs : List Bool} {x : Nat} (h : gridB R S bs.length = true) (hx : fullV bs = some x) (h1 : (FloatKind.f32.format.order x 1065353216 == some .eq) = true) : cosR R S bs = (some 0, false) := by unfold cosR; rw [h, hx]; simp only [h1, if_true]
theorem cosR_zero {R S : Int} {bs : List Bool} {x : Nat} (h : gridB R S bs.length = true) (hx : fullV bs = some x) (h1 : (FloatKind.f32.format.order x 1065353216 == some .eq) = false) (h2 : (FloatKind.f32.format.order x 0 == some .eq) = true) : cosR R S bs = (some 0, true) := by unfold cosR; rw [h, hx]; simp only [h1, h2, if_true, Bool.false_eq_true, if_false]
theorem cosR_y {r : Nat} {S : Int} {bs : List Bool} {x : Nat} (h : gridB r S bs.length = true) (hx : fullV bs = some x) (h1 : (FloatKind.f32.format.order x 1065353216 == some .eq) = false) (h2 : (FloatKind.f32.format.order x 0 == some .eq) = false) : cosR r S bs = (cosV r bs, true) := by unfold cosR; rw [h, hx]; simp only [h1, h2, if_true, Bool.false_eq_true, if_false, Int.toNat_natCast]
structure CosAt (r n x y c p q : Nat) : Prop where
  sub : floatBits .sub .f32 1065353216 x = some y
  lt : y < 4294967296
  ps : Ps (some y) (-60) 1
  ln : lnO (some y) = some c
  mul : floatBits .mul .f32 (Op.negFloat .f32 (floatOfInt .f32 (n : Int))) c = some p
  quo : floatBits .quo .f32 p (floatOfInt .f32 (r : Int)) = some q
  fin : isFin .f32 q = true
theorem full_some {bs : List Bool} (h1 : 1 ≤ bs.length) (h2 : bs.length ≤ 512) : ∃ x s m e, fullV bs = some x ∧ FloatKind.f32.decode x = .number s m e ∧ (m ≠ 0 → Ps (fullV bs) (-10) 0) := by
  by_cases h0 : cntN bs bs.length = 0
  · have e : fullV bs = some 0 := by unfold fullV; rw [h0]; exact full_zero h1 h2
    rw [e]
    exact ⟨0, false, 0, -149, rfl, by kernel_rfl, fun h => absurd rfl h⟩
  · have hp : Ps (fullV bs) (-10) 0 := full_ps (by omega) (cntN_le bs _) h2
    obtain ⟨c, m, e, g1, g2, g3, g4, g5⟩ := id hp
    exact ⟨c, false, m, e, g1, g2, fun _ => hp⟩
theorem cos_at {r : Nat} {bs : List Bool} {x : Nat} (h1 : 1 ≤ bs.length) (h2 : bs.length ≤ 512) (hr1 : 1 ≤ r) (hr8 : r ≤ 8) (hx : fullV bs = some x) (o1 : (FloatKind.f32.format.order x 1065353216 == some .eq) = false) (o0 : (FloatKind.f32.format.order x 0 == some .eq) = false) :
    ∃ y c p q, CosAt r bs.length x y c p q ∧ cosV r bs = some q := by
  obtain ⟨x', s, m, e, g1, g2, g3⟩ := full_some h1 h2
  rw [hx] at g1
  obtain rfl := Option.some.inj g1
  rw [(sign_num g2).1] at o0
  have hps := g3 (of_decide_eq_false o0)
  rw [hx] at hps
  have hy := one_minus hps (by omega) (fun c hc => by rw [← Option.some.inj hc]; exact o1)
  obtain ⟨y, _, _, ey, _⟩ := id hy
  rw [ey] at hy
  have hc := lnO_fb hy
  obtain ⟨c, _, _, _, ec, _⟩ := id hc
  rw [ec] at hc
  have hn := (fI_ps h1 h2).fb
  rw [fI_some h1 h2] at hn
  have hp := Fb.mul (neg_fb hn) hc (by omega) (by omega)
  obtain ⟨p, _, _, _, ep, _⟩ := id hp
  rw [ep] at hp
  have hq := Fb.quo hp (fI_ps hr1 (by omega)) (by omega) (by omega)
  obtain ⟨q, _, _, _, eq, _⟩ := id hq
  rw [eq] at hq
  refine ⟨y, c, p, q, ⟨ey, lt_of_wf (floatBits_wf (show floatBits .sub .f32 1065353216 x = some y from ey)), hy, ec, ep, ?_, fb_fv hq⟩, ?_⟩
  · rw [fI_some hr1 (by omega)] at eq; exact eq
  · unfold cosV; rw [hx, ey, ec, ep, eq]
theorem run_some {P : Program} {op : BinOp} {t : TypeId} {x y r : Nat} (hop : op = .add ∨ op = .sub ∨ op = .mul ∨ op = .quo) (h : floatBits op .f32 x y = some r) (w : World) : (binOp op t (.float .f32 x) (.float .f32 y)).run P w = .ok (.float .f32 r) w := by
  have h1 : flR w op .f32 x y = r := flR_some h
  have h2 : flD op .f32 x y = 0 := flD_some h
  rcases hop with rfl | rfl | rfl | rfl
  · rw [run_fl_add, h1, h2, World.drewN_zero]
  · rw [run_fl_sub, h1, h2, World.drewN_zero]
  · rw [run_fl_mul, h1, h2, World.drewN_zero]
  · rw [run_fl_quo, h1, h2, World.drewN_zero]
set_option maxHeartbeats 4000000 in
theorem c_impl_CountOfSieve (R S : Int) (a : Option Addr) (n cap : Nat) (bs : List Bool) (w : World) {v : Option Nat} {b : Bool} (hv : cosR R S bs = (v, b)) (hm : n ≤ maxLen) (h : Reads w a n (bools bs)) :
    Calls Try.prog 52 #[.agg #[.int .i64 R, .int .i64 S, .slice a n cap]] w (RetFE v b w) := by
  have hn := h.bool.1
  subst hn
  have H := Lib.hid h
  have BX := Lib.hid (Box.alloc w #[.int .i64 R, .int .i64 S, .slice a bs.length cap] 75)
  clear h
  cases hc : gridB R S bs.length
  · rw [cosR_no hc] at hv
    simp only [Prod.mk.injEq] at hv
    obtain ⟨rfl, rfl⟩ := hv
    have HC := Lib.hid (fullR_no hc)
    clear hc
    go_enter Try.func52, Try.ntmps52
    go_wp2_with fail
    refine (c_impl_FullOfSieve R S a bs.length cap bs _ HC.out hm (H.out.on (by (repeat (first | assumption | exact Ext.refl _ | (with_reducible refine Ext.stepS ?_ (by first | exact Nat.le_refl _ | (simp; done) | (simp; omega)) _) | (with_reducible refine Ext.stepN ?_ _) | (with_reducible refine Ext.stepD ?_) | (with_reducible refine Ext.stepA ?_ _)))))).mono ?_; rintro e u1 ⟨x, rfl, hx, x1⟩
    have X : Ext w u1 := Ext.trans (by (repeat (first | assumption | exact Ext.refl _ | (with_reducible refine Ext.stepS ?_ (by first | exact Nat.le_refl _ | (simp; done) | (simp; omega)) _) | (with_reducible refine Ext.stepN ?_ _) | (with_reducible refine Ext.stepD ?_) | (with_reducible refine Ext.stepA ?_ _)))) x1
    clear x1 hx
    go_wp2
    go_ret2
    exact RetFE.no _ _ X
  obtain ⟨r, m, rfl, hm1, ok⟩ := grid_ok hc
  have hr1 := ok.r1
  have hr8 := ok.r8
  have hn1 : 1 ≤ bs.length := by have := ok.n1; omega
  have hn5 : bs.length ≤ 512 := by have := ok.n512; omega
  obtain ⟨x, sx, mx, ex, hfx, hdx, _⟩ := full_some hn1 hn5
  have HC := Lib.hid (fullR_y hc)
  cases o1 : (FloatKind.f32.format.order x 1065353216 == some .eq)
  · cases o0 : (FloatKind.f32.format.order x 0 == some .eq)
    · rw [cosR_y hc hfx o1 o0] at hv
      simp only [Prod.mk.injEq] at hv
      obtain ⟨hv, rfl⟩ := hv
      obtain ⟨y, c, p, q, K, hq⟩ := cos_at hn1 hn5 hr1 hr8 hfx o1 o0
      have HQ := Lib.hid (hq.symm.trans hv)
      have HK := Lib.hid K
      have k1 := fun wx : World => run_some (P := Try.prog) (t := 25) (.inr (.inl rfl)) K.sub wx
      have k2 := fun wx : World => run_some (P := Try.prog) (t := 25) (.inr (.inr (.inl rfl))) K.mul wx
      have k3 := fun wx : World => run_some (P := Try.prog) (t := 25) (.inr (.inr (.inr rfl))) K.quo wx
      have HX := Lib.hid hfx
      clear hq hv K hdx hc hm1 ok hfx
      go_enter Try.func52, Try.ntmps52
      go_wp2_with fail
      refine (c_impl_FullOfSieve r S a bs.length cap bs _ HC.out hm (H.out.on (by (repeat (first | assumption | exact Ext.refl _ | (with_reducible refine Ext.stepS ?_ (by first | exact Nat.le_refl _ | (simp; done) | (simp; omega)) _) | (with_reducible refine Ext.stepN ?_ _) | (with_reducible refine Ext.stepD ?_) | (with_reducible refine Ext.stepA ?_ _)))))).mono ?_; rintro e u1 ⟨x', rfl, hx, x1⟩
      have X1 := Lib.hid (show Ext w u1 from Ext.trans (by (repeat (first | assumption | exact Ext.refl _ | (with_reducible refine Ext.stepS ?_ (by first | exact Nat.le_refl _ | (simp; done) | (simp; omega)) _) | (with_reducible refine Ext.stepN ?_ _) | (with_reducible refine Ext.stepD ?_) | (with_reducible refine Ext.stepA ?_ _)))) x1)
      obtain rfl := fv_is32 (hx.trans HX.out)
      obtain ⟨b0, b1, b2⟩ := (BX.out.on x1).three
      clear x1 hx
      go_upto_region 6 with fail
      go_quiet (first | (go_at_call 106; exact Calls.quiet_of (c_impl_Log_ps y c _ HK.out.lt HK.out.ps HK.out.ln)))
      go_wp2
      go_ret2
      exact ⟨q, rfl, by rw [fin_fv HK.out.fin, HQ.out], by have := X1.out; (repeat (first | assumption | exact Ext.refl _ | (with_reducible refine Ext.stepS ?_ (by first | exact Nat.le_refl _ | (simp; done) | (simp; omega)) _) | (with_reducible refine Ext.stepN ?_ _) | (with_reducible refine Ext.stepD ?_) | (with_reducible refine Ext.stepA ?_ _)))⟩
    · rw [cosR_zero hc hfx o1 o0] at hv
      simp only [Prod.mk.injEq] at hv
      obtain ⟨rfl, rfl⟩ := hv
      have HX := Lib.hid hfx
      clear hdx hc hm1 ok hfx
      go_enter Try.func52, Try.ntmps52
      go_wp2_with fail
      refine (c_impl_FullOfSieve r S a bs.length cap bs _ HC.out hm (H.out.on (by (repeat (first | assumption | exact Ext.refl _ | (with_reducible refine Ext.stepS ?_ (by first | exact Nat.le_refl _ | (simp; done) | (simp; omega)) _) | (with_reducible refine Ext.stepN ?_ _) | (with_reducible refine Ext.stepD ?_) | (with_reducible refine Ext.stepA ?_ _)))))).mono ?_; rintro e u1 ⟨x', rfl, hx, x1⟩
      have X1 := Lib.hid (show Ext w u1 from Ext.trans (by (repeat (first | assumption | exact Ext.refl _ | (with_reducible refine Ext.stepS ?_ (by first | exact Nat.le_refl _ | (simp; done) | (simp; omega)) _) | (with_reducible refine Ext.stepN ?_ _) | (with_reducible refine Ext.stepD ?_) | (with_reducible refine Ext.stepA ?_ _)))) x1)
      obtain rfl := fv_is32 (hx.trans HX.out)
      clear x1 hx
      go_wp2
      go_ret2
      exact ⟨0, rfl, fv_zero32, by have := X1.out; (repeat (first | assumption | exact Ext.refl _ | (with_reducible refine Ext.stepS ?_ (by first | exact Nat.le_refl _ | (simp; done) | (simp; omega)) _) | (with_reducible refine Ext.stepN ?_ _) | (with_reducible refine Ext.stepD ?_) | (with_reducible refine Ext.stepA ?_ _)))⟩
  · rw [cosR_one hc hfx o1] at hv
    simp only [Prod.mk.injEq] at hv
    obtain ⟨rfl, rfl⟩ := hv
    have HX := Lib.hid hfx
    clear hdx hc hm1 ok hfx
    go_enter Try.func52, Try.ntmps52
    go_wp2_with fail
    refine (c_impl_FullOfSieve r S a bs.length cap bs _ HC.out hm (H.out.on (by (repeat (first | assumption | exact Ext.refl _ | (with_reducible refine Ext.stepS ?_ (by first | exact Nat.le_refl _ | (simp; done) | (simp; omega)) _) | (with_reducible refine Ext.stepN ?_ _) | (with_reducible refine Ext.stepD ?_) | (with_reducible refine Ext.stepA ?_ _)))))).mono ?_; rintro e u1 ⟨x', rfl, hx, x1⟩
    have X1 := Lib.hid (show Ext w u1 from Ext.trans (by (repeat (first | assumption | exact Ext.refl _ | (with_reducible refine Ext.stepS ?_ (by first | exact Nat.le_refl _ | (simp; done) | (simp; omega)) _) | (with_reducible refine Ext.stepN ?_ _) | (with_reducible refine Ext.stepD ?_) | (with_reducible refine Ext.stepA ?_ _)))) x1)
    obtain rfl := fv_is32 (hx.trans HX.out)
    clear x1 hx
    go_wp2
    go_ret2
    exact ⟨0, rfl, fv_zero32, by have := X1.out; (repeat (first | assumption | exact Ext.refl _ | (with_reducible refine Ext.stepS ?_ (by first | exact Nat.le_refl _ | (simp; done) | (simp; omega)) _) | (with_reducible refine Ext.stepN ?_ _) | (with_reducible refine Ext.stepD ?_) | (with_reducible refine Ext.stepA ?_ _)))⟩
set_option maxHeartbeats 4000000 in
theorem c_spec_CountOfSieve (R S : Int) (a : Option Addr) (n cap : Nat) (bs : List Bool) (w : World) {v : Option Nat} {b : Bool} (hv : cosR R S bs = (v, b)) (hm : n ≤ maxLen) (h : Reads w a n (bools bs)) :
    Calls Try.prog 50 #[.agg #[.int .i64 R, .int .i64 S, .slice a n cap]] w (RetFE v b w) := by
  have hn := h.bool.1
  subst hn
  have H := Lib.hid h
  have BX := Lib.hid (Box.alloc w #[.int .i64 R, .int .i64 S, .slice a bs.length cap] 75)
  clear h
  cases hc : gridB R S bs.length
  · rw [cosR_no hc] at hv
    simp only [Prod.mk.injEq] at hv
    obtain ⟨rfl, rfl⟩ := hv
    have HC := Lib.hid hc
    clear hc
    go_enter Try.func50, Try.ntmps50
    go_wp2_with (go_at_call 108; refine (c_spec_l04Is w.heap.size R S a bs.length cap _ HC.out (BX.out.on (by (repeat (first | assumption | exact Ext.refl _ | (with_reducible refine Ext.stepS ?_ (by first | exact Nat.le_refl _ | (simp; done) | (simp; omega)) _) | (with_reducible refine Ext.stepN ?_ _) | (with_reducible refine Ext.stepD ?_) | (with_reducible refine Ext.stepA ?_ _))))) hm).mono ?_; rintro e u1 ⟨rfl, q, rfl⟩)
    go_ret2
    exact RetFE.no _ _ (by (repeat (first | assumption | exact Ext.refl _ | (with_reducible refine Ext.stepS ?_ (by first | exact Nat.le_refl _ | (simp; done) | (simp; omega)) _) | (with_reducible refine Ext.stepN ?_ _) | (with_reducible refine Ext.stepD ?_) | (with_reducible refine Ext.stepA ?_ _))))
  obtain ⟨r, m, rfl, hm1, ok⟩ := grid_ok hc
  have hr1 := ok.r1
  have hr8 := ok.r8
  have hn1 : 1 ≤ bs.length := by have := ok.n1; omega
  have hn5 : bs.length ≤ 512 := by have := ok.n512; omega
  obtain ⟨x, sx, mx, ex, hfx, hdx, _⟩ := full_some hn1 hn5
  have HC := Lib.hid hc
  cases o0 : (FloatKind.f32.format.order x 0 == some .eq)
  · cases o1 : (FloatKind.f32.format.order x 1065353216 == some .eq)
    · rw [cosR_y hc hfx o1 o0] at hv
      simp only [Prod.mk.injEq] at hv
      obtain ⟨hv, rfl⟩ := hv
      obtain ⟨y, c, p, q, K, hq⟩ := cos_at hn1 hn5 hr1 hr8 hfx o1 o0
      have HQ := Lib.hid (hq.symm.trans hv)
      have HK := Lib.hid K
      have k1 := fun wx : World => run_some (P := Try.prog) (t := 25) (.inr (.inl rfl)) K.sub wx
      have k2 := fun wx : World => run_some (P := Try.prog) (t := 25) (.inr (.inr (.inl rfl))) K.mul wx
      have k3 := fun wx : World => run_some (P := Try.prog) (t := 25) (.inr (.inr (.inr rfl))) K.quo wx
      have HX := Lib.hid hfx
      clear hq hv K hdx hc hm1 ok hfx
      go_enter Try.func50, Try.ntmps50
      go_wp2_with (go_at_call 108; refine (c_spec_l04Is w.heap.size r S a bs.length cap _ HC.out (BX.out.on (by (repeat (first | assumption | exact Ext.refl _ | (with_reducible refine Ext.stepS ?_ (by first | exact Nat.le_refl _ | (simp; done) | (simp; omega)) _) | (with_reducible refine Ext.stepN ?_ _) | (with_reducible refine Ext.stepD ?_) | (with_reducible refine Ext.stepA ?_ _))))) hm).mono ?_; rintro e u1 ⟨rfl, q0, rfl⟩)
      refine (c_spec_l04Full w.heap.size r S a bs.length cap bs _ hn5 hn1 (H.out.on (by (repeat (first | assumption | exact Ext.refl _ | (with_reducible refine Ext.stepS ?_ (by first | exact Nat.le_refl _ | (simp; done) | (simp; omega)) _) | (with_reducible refine Ext.stepN ?_ _) | (with_reducible refine Ext.stepD ?_) | (with_reducible refine Ext.stepA ?_ _))))) (BX.out.on (by (repeat (first | assumption | exact Ext.refl _ | (with_reducible refine Ext.stepS ?_ (by first | exact Nat.le_refl _ | (simp; done) | (simp; omega)) _) | (with_reducible refine Ext.stepN ?_ _) | (with_reducible refine Ext.stepD ?_) | (with_reducible refine Ext.stepA ?_ _)))))).mono ?_; rintro e u1 ⟨x', rfl, hx, x1⟩
      have X1 := Lib.hid (show Ext w u1 from Ext.trans (by (repeat (first | assumption | exact Ext.refl _ | (with_reducible refine Ext.stepS ?_ (by first | exact Nat.le_refl _ | (simp; done) | (simp; omega)) _) | (with_reducible refine Ext.stepN ?_ _) | (with_reducible refine Ext.stepD ?_) | (with_reducible refine Ext.stepA ?_ _)))) x1)
      obtain rfl := fv_is32 (hx.trans HX.out)
      obtain ⟨b0, b1, b2⟩ := ((BX.out.on (by (repeat (first | assumption | exact Ext.refl _ | (with_reducible refine Ext.stepS ?_ (by first | exact Nat.le_refl _ | (simp; done) | (simp; omega)) _) | (with_reducible refine Ext.stepN ?_ _) | (with_reducible refine Ext.stepD ?_) | (with_reducible refine Ext.stepA ?_ _))) : Ext (w.alloc (.cells #[.int .i64 r, .int .i64 S, .slice a bs.length cap] 75)) _)).on x1).three
      clear x1 hx
      go_upto_region 8 with fail
      go_quiet (first | (go_at_call 104; exact Calls.quiet_of (c_spec_Log_ps y c _ HK.out.ps HK.out.ln)) | (go_at_call 103; exact Calls.quiet_of (c_spec_l02Number q _ HK.out.fin)))
      go_wp2
      go_ret2
      exact ⟨q, rfl, by rw [fin_fv HK.out.fin, HQ.out], by have := X1.out; (repeat (first | assumption | exact Ext.refl _ | (with_reducible refine Ext.stepS ?_ (by first | exact Nat.le_refl _ | (simp; done) | (simp; omega)) _) | (with_reducible refine Ext.stepN ?_ _) | (with_reducible refine Ext.stepD ?_) | (with_reducible refine Ext.stepA ?_ _)))⟩
    · rw [cosR_one hc hfx o1] at hv
      simp only [Prod.mk.injEq] at hv
      obtain ⟨rfl, rfl⟩ := hv
      have HX := Lib.hid hfx
      clear hdx hc hm1 ok hfx
      go_enter Try.func50, Try.ntmps50
      go_wp2_with (go_at_call 108; refine (c_spec_l04Is w.heap.size r S a bs.length cap _ HC.out (BX.out.on (by (repeat (first | assumption | exact Ext.refl _ | (with_reducible refine Ext.stepS ?_ (by first | exact Nat.le_refl _ | (simp; done) | (simp; omega)) _) | (with_reducible refine Ext.stepN ?_ _) | (with_reducible refine Ext.stepD ?_) | (with_reducible refine Ext.stepA ?_ _))))) hm).mono ?_; rintro e u1 ⟨rfl, q0, rfl⟩)
      refine (c_spec_l04Full w.heap.size r S a bs.length cap bs _ hn5 hn1 (H.out.on (by (repeat (first | assumption | exact Ext.refl _ | (with_reducible refine Ext.stepS ?_ (by first | exact Nat.le_refl _ | (simp; done) | (simp; omega)) _) | (with_reducible refine Ext.stepN ?_ _) | (with_reducible refine Ext.stepD ?_) | (with_reducible refine Ext.stepA ?_ _))))) (BX.out.on (by (repeat (first | assumption | exact Ext.refl _ | (with_reducible refine Ext.stepS ?_ (by first | exact Nat.le_refl _ | (simp; done) | (simp; omega)) _) | (with_reducible refine Ext.stepN ?_ _) | (with_reducible refine Ext.stepD ?_) | (with_reducible refine Ext.stepA ?_ _)))))).mono ?_; rintro e u1 ⟨x', rfl, hx, x1⟩
      have X1 := Lib.hid (show Ext w u1 from Ext.trans (by (repeat (first | assumption | exact Ext.refl _ | (with_reducible refine Ext.stepS ?_ (by first | exact Nat.le_refl _ | (simp; done) | (simp; omega)) _) | (with_reducible refine Ext.stepN ?_ _) | (with_reducible refine Ext.stepD ?_) | (with_reducible refine Ext.stepA ?_ _)))) x1)
      obtain rfl := fv_is32 (hx.trans HX.out)
      clear x1 hx
      go_wp2
      go_ret2
      exact ⟨0, rfl, fv_zero32, by have := X1.out; (repeat (first | assumption | exact Ext.refl _ | (with_reducible refine Ext.stepS ?_ (by first | exact Nat.le_refl _ | (simp; done) | (simp; omega)) _) | (with_reducible refine Ext.stepN ?_ _) | (with_reducible refine Ext.stepD ?_) | (with_reducible refine Ext.stepA ?_ _)))⟩
  · have o1 := zero_not_one hdx o0
    rw [cosR_zero hc hfx o1 o0] at hv
    simp only [Prod.mk.injEq] at hv
    obtain ⟨rfl, rfl⟩ := hv
    have HX := Lib.hid hfx
    clear hdx hc hm1 ok hfx
    go_enter Try.func50, Try.ntmps50
    go_wp2_with (go_at_call 108; refine (c_spec_l04Is w.heap.size r S a bs.length cap _ HC.out (BX.out.on (by (repeat (first | assumption | exact Ext.refl _ | (with_reducible refine Ext.stepS ?_ (by first | exact Nat.le_refl _ | (simp; done) | (simp; omega)) _) | (with_reducible refine Ext.stepN ?_ _) | (with_reducible refine Ext.stepD ?_) | (with_reducible refine Ext.stepA ?_ _))))) hm).mono ?_; rintro e u1 ⟨rfl, q0, rfl⟩)
    refine (c_spec_l04Full w.heap.size r S a bs.length cap bs _ hn5 hn1 (H.out.on (by (repeat (first | assumption | exact Ext.refl _ | (with_reducible refine Ext.stepS ?_ (by first | exact Nat.le_refl _ | (simp; done) | (simp; omega)) _) | (with_reducible refine Ext.stepN ?_ _) | (with_reducible refine Ext.stepD ?_) | (with_reducible refine Ext.stepA ?_ _))))) (BX.out.on (by (repeat (first | assumption | exact Ext.refl _ | (with_reducible refine Ext.stepS ?_ (by first | exact Nat.le_refl _ | (simp; done) | (simp; omega)) _) | (with_reducible refine Ext.stepN ?_ _) | (with_reducible refine Ext.stepD ?_) | (with_reducible refine Ext.stepA ?_ _)))))).mono ?_; rintro e u1 ⟨x', rfl, hx, x1⟩
    have X1 := Lib.hid (show Ext w u1 from Ext.trans (by (repeat (first | assumption | exact Ext.refl _ | (with_reducible refine Ext.stepS ?_ (by first | exact Nat.le_refl _ | (simp; done) | (simp; omega)) _) | (with_reducible refine Ext.stepN ?_ _) | (with_reducible refine Ext.stepD ?_) | (with_reducible refine Ext.stepA ?_ _)))) x1)
    obtain rfl := fv_is32 (hx.trans HX.out)
    clear x1 hx
    go_wp2
    go_ret2
    exact ⟨0, rfl, fv_zero32, by have := X1.out; (repeat (first | assumption | exact Ext.refl _ | (with_reducible refine Ext.stepS ?_ (by first | exact Nat.le_refl _ | (simp; done) | (simp; omega)) _) | (with_reducible refine Ext.stepN ?_ _) | (with_reducible refine Ext.stepD ?_) | (with_reducible refine Ext.stepA ?_ _)))⟩
end Go.Proofs.Ytplngjbllllanaa
