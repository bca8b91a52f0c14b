/- FnPowers: the law's walk. -/
import Derived.Test.YtnjkpapjioeffacPw
namespace Go.Proofs.Ytnjkpapjioeffac
open Go.ChangeShapes Go.WideShapes Go.ChangeAt Go.RowKit Go.Proofs.Ytnjkpapjioeffac.Flo
set_option linter.unusedVariables false
attribute [local go_sem] unary_neg_float run_store_float run_store_complex ext_Float32bits ext_Float64bits ext_Float32frombits ext_Float64frombits ext_sqrt

def chk4g (a W M : Nat) (i : Int) (lg x : Nat) : Bool := decide (a < 4294967296) && !(FloatKind.f32.format.order a 0 == some .eq) && !(FloatKind.f32.format.order a 0 == some .lt) && !(FloatKind.f32.format.order a a != some .eq) && isFin .f32 a && decide (4503599627370496 ≤ M) && decide (M < 9007199254740992) && decide (-210 ≤ i) && decide (i ≤ 80) && (floatToFloatBits .f32 a .f64 == some (wd M i)) && (slim (logOf (logS (fv .f64 (wd M (endK M)))) (i - endK M)) == some lg) && (ford .f64 (gapV (wide (fv .f32 lg)) (wide (fv .f32 x))) cMil == some .lt) && (ford .f32 (fv .f32 a) (fv .f32 0) == some .gt) && (fv .f32 lg == some lg)
theorem wrap_in (n : Int) (h : -9223372036854775808 ≤ n ∧ n ≤ 9223372036854775807) : wrap64 n = n := by unfold wrap64; omega
theorem chk4_g (k : Nat) : chk4 k = chk4g (E (k + 32)) 0 (ME k) (IE k) (LG k) (X (k + 32)) := by unfold chk4 chk4g; exact Eq.refl _
theorem c_Log_g (a W M : Nat) (i : Int) (lg x : Nat) (h : chk4g a W M i lg x = true) (w : World) : Calls Try.prog 25 #[.float .f32 a] w fun e w' => e = .returned (.float .f32 lg) ∧ ∃ n, w' = w.drewN n := by
  unfold chk4g at h
  simp only [Bool.and_eq_true, Bool.not_eq_true', beq_iff_eq, decide_eq_true_eq] at h
  obtain ⟨⟨⟨⟨⟨⟨⟨⟨⟨⟨⟨⟨⟨h1, h2⟩, h3⟩, h4⟩, h5⟩, h6⟩, h7⟩, h8⟩, h9⟩, h10⟩, h11⟩, h12⟩, h13⟩, h14⟩ := h
  have hR : ∀ w, convR w .f32 a .f64 = wd M i := fun w => by unfold convR; rw [h10]; rfl
  have hD : convD .f32 a .f64 = 0 := by unfold convD; rw [h10]; rfl
  refine (c_impl_Log_pos a M i w h1 h2 h3 h4 h5 h6 h7 h8 h9 hR hD (.inr (by rw [h11]; rfl))).mono ?_
  rintro e w' ⟨r, n, rfl, rfl, hr⟩
  rw [h11] at hr
  obtain rfl := fv_eq32 hr
  exact ⟨rfl, n, rfl⟩
theorem tab_g (a W M : Nat) (i : Int) (lg x : Nat) (h : chk4g a W M i lg x = true) : (ford .f64 (gapV (wide (fv .f32 lg)) (wide (fv .f32 x))) cMil == some .lt) = true ∧ (FloatKind.f32.format.order a 0 == some .gt) = true := by
  unfold chk4g at h
  rw [Bool.and_eq_true, Bool.and_eq_true, Bool.and_eq_true] at h
  obtain ⟨⟨⟨_, h12⟩, h13⟩, h14⟩ := h
  exact ⟨h12, by rw [order_ford]; exact h13⟩
theorem chk4_at (k : Nat) (hk : k < 65) : chk4g (E (k + 32)) 0 (ME k) (IE k) (LG k) (X (k + 32)) = true := (chk4_g k).symm.trans (at_range all4 k hk)
theorem c_Log_at (k : Nat) (hk : k < 65) (w : World) : Calls Try.prog 25 #[.float .f32 (E (k + 32))] w fun e w' => e = .returned (.float .f32 (LG k)) ∧ ∃ n, w' = w.drewN n := c_Log_g _ _ _ _ _ _ (chk4_at k hk) w
theorem tab_log (k : Nat) (hk : k < 65) : (ford .f64 (gapV (wide (fv .f32 (LG k))) (wide (fv .f32 (X (k + 32))))) cMil == some .lt) = true ∧ (FloatKind.f32.format.order (E (k + 32)) 0 == some .gt) = true := tab_g _ _ _ _ _ _ (chk4_at k hk)
theorem E64 : E 64 = 1065353216 := by decide +kernel
theorem X64 : X 64 = 0 := by decide +kernel
theorem E6432 : E (32 + 32) = 1065353216 := by decide +kernel
theorem LG32 : LG 32 = 0 := by decide +kernel
theorem c_Exp_0 (w : World) : Calls Try.prog 23 #[.float .f32 0] w fun e w' => e = .returned (.float .f32 1065353216) ∧ ∃ k, w' = w.drewN k := by
  have h := c_Exp_at 64 (by omega) w
  rw [X64, E64] at h; exact h
theorem c_Log_1 (w : World) : Calls Try.prog 25 #[.float .f32 1065353216] w fun e w' => e = .returned (.float .f32 0) ∧ ∃ k, w' = w.drewN k := by
  have h := c_Log_at 32 (by omega) w
  rw [E6432, LG32] at h; exact h
set_option maxHeartbeats 4000000 in
theorem walk_FnPowers (a0 : Option Addr) (len0 cap0 : Nat) (z0 : List Int) (a1 : Option Addr) (len1 cap1 : Nat) (z1 : List Int) (w : World) (w0 : IsRow .u8 w a0 len0 cap0 z0) (w1 : IsRow .u8 w a1 len1 cap1 z1) :
    Calls Try.prog 10 #[.slice a0 len0 cap0, .slice a1 len1 cap1] w fun e w' => e = .returned (.bool true) ∧ Below w.heap.size w w' := by
  cases hlong : (decide (1048576 < (len0 : Int)) || decide (1048576 < (len1 : Int))) with
  | true =>
    have HL := Lib.hid hlong
    clear hlong w0 w1
    go_enter Try.func10, Try.ntmps10
    go_wp2_with fail
    refine (c_b10Long _ _ _ _ _ _ _ true HL.out).mono ?_; rintro e w' ⟨rfl, rfl⟩
    go_wp2
    go_ret
    exact ⟨rfl, Below.refl _ _⟩
  | false =>
    have HL := Lib.hid hlong
    have H0 := Lib.hid w0
    have H1 := Lib.hid w1
    clear hlong w0 w1
    have hcv : ∀ (wx : World) (y : Nat), (convert 28 22 (.float .f32 y)).run Try.prog wx = .ok (.float .f64 (convR wx .f32 y .f64)) (wx.drewN (convD .f32 y .f64)) := fun wx y => run_conv wx _ _ _ _ _ (by kernel_rfl) (by kernel_rfl)
    have he1 : (FloatKind.f32.format.order 1065353216 1065353216 == some .eq) = true := by kernel_rfl
    have he0 : (FloatKind.f32.format.order 0 0 == some .eq) = true := by kernel_rfl
    go_enter Try.func10, Try.ntmps10
    go_wp2_with fail
    refine (c_b10Long _ _ _ _ _ _ _ false HL.out).mono ?_; rintro e w' ⟨rfl, rfl⟩
    go_wp2_with fail
    refine (c_b10At a0 len0 cap0 z0 _ H0.out).mono ?_; rintro e w' ⟨k, hk, rfl, rfl⟩
    have HK := Lib.hid hk
    clear hk
    go_wp2_with fail
    (with_reducible refine upon_fl rfl ?_); intro x nx hx
    rw [wrap_in _ (by have := HK.out; omega)] at hx
    obtain rfl := fv_eq32 (hx.out.trans (tabX_at k HK.out))
    clear hx
    go_wp2_with fail
    refine (c_b10At a1 len1 cap1 z1 _ (H1.out.drew _)).mono ?_; rintro e w' ⟨l, hl, rfl, rfl⟩
    have HLL := Lib.hid hl
    clear hl
    go_wp2_with fail
    (with_reducible refine upon_fl rfl ?_); intro y ny hy
    rw [wrap_in _ (by have := HLL.out; omega)] at hy
    obtain rfl := fv_eq32 (hy.out.trans (tabX_at l HLL.out))
    clear hy
    go_wp2_with fail
    refine (c_Exp_at (k + 32) (by have := HK.out; omega) _).mono ?_; rintro e w' ⟨rfl, m1, rfl⟩
    go_wp2_with fail
    refine (c_Exp_at (l + 32) (by have := HLL.out; omega) _).mono ?_; rintro e w' ⟨rfl, m2, rfl⟩
    go_wp2_with fail
    (with_reducible refine upon_fl rfl ?_); intro z nz hz
    obtain rfl := fv_eq32 (hz.out.trans (tabX_add k l HK.out HLL.out))
    clear hz
    go_wp2_with fail
    refine (c_Exp_at (k + l) (by have := HK.out; have := HLL.out; omega) _).mono ?_; rintro e w' ⟨rfl, m3, rfl⟩
    go_wp2_with fail
    refine (c_Log_at k HK.out _).mono ?_; rintro e w' ⟨rfl, m4, rfl⟩
    go_wp2_with fail
    refine (c_gap _ _ _).mono ?_; rintro e w' ⟨g, m5, rfl, rfl, hg⟩
    have hg1 : (FloatKind.f64.format.order g 4562254508917369340 == some .lt) = true := by
      rw [order_ford, hg, fv_wideR, fv_wideR]; exact (tab_log k HK.out).1
    clear hg
    have hgt := (tab_log k HK.out).2
    go_wp2_with fail
    (with_reducible refine upon_fl rfl ?_); intro p np hp
    go_wp2_with fail
    refine (c_gap _ _ _).mono ?_; rintro e w' ⟨g2, m6, rfl, rfl, hg2⟩
    have HG2 := Lib.hid hg2
    clear hg2
    go_wp2_with fail
    (with_reducible refine upon_fl rfl ?_); intro q nq hq
    have hg3 : (FloatKind.f64.format.order g2 q == some .lt) = true := by
      rw [order_ford, HG2.out, hq.out, hp.out]; simp only [fv_wideR]; exact at_range2 all6 k l HK.out HLL.out
    clear hq hp
    go_wp2_with fail
    refine (c_Exp_0 _).mono ?_; rintro e w' ⟨rfl, m7, rfl⟩
    go_wp2_with fail
    refine (c_Log_1 _).mono ?_; rintro e w' ⟨rfl, m8, rfl⟩
    go_wp2
    go_ret
    exact ⟨rfl, wbelow _ _⟩
end Go.Proofs.Ytnjkpapjioeffac
