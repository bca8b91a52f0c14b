/- How full a sieve is; FullOfSieve, FalseShare: both sides. -/
import Derived.Test.YtplngjbllllanaaCon
import Derived.Test.YtplngjbllllanaaSiv
namespace Go.Proofs.Ytplngjbllllanaa
open Go.ChangeShapes Go.WideShapes Go.ChangeAt Go.RowKit Go.Proofs.Ytplngjbllllanaa.Flo
set_option linter.unusedVariables false
attribute [local go_sem] run_fl_add run_fl_sub run_fl_mul run_fl_quo run_conv run_store_float run_store_complex
def fI (n : Int) : Option Nat := fv .f32 (floatOfInt .f32 n)
def RetFE (V : Option Nat) (b : Bool) (w : World) (e : Ending) (w' : World) : Prop := ∃ r, e = .returned (.tuple #[.float .f32 r, .bool b]) ∧ fv .f32 r = V ∧ Ext w w'
theorem fv_zero32 : fv .f32 0 = some 0 := by unfold fv; rfl
theorem RetFE.no (w w' : World) (h : Ext w w') : RetFE (some 0) false w (.returned (.tuple #[.float .f32 0, .bool false])) w' := ⟨0, rfl, fv_zero32, h⟩
/-- how many of the first k bits are set -/
def cntN (bs : List Bool) : Nat → Nat
  | 0 => 0
  | k + 1 => cntN bs k + (bs[k]?.getD false).toNat
theorem cntN_le (bs : List Bool) : ∀ k, cntN bs k ≤ k
  | 0 => Nat.le_refl _
  | k + 1 => by
    have := cntN_le bs k
    show cntN bs k + (bs[k]?.getD false).toNat ≤ k + 1
    cases bs[k]?.getD false <;> simp [Bool.toNat] <;> omega
def fullV (bs : List Bool) : Option Nat := fop .quo .f32 (fI (cntN bs bs.length : Nat)) (fI bs.length)
def fullR (R S : Int) (bs : List Bool) : Option Nat × Bool := if gridB R S bs.length then (fullV bs, true) else (some 0, false)
theorem fullR_no {R S : Int} {bs : List Bool} (h : gridB R S bs.length = false) : fullR R S bs = (some 0, false) := by unfold fullR; rw [h]; rfl
theorem fullR_y {R S : Int} {bs : List Bool} (h : gridB R S bs.length = true) : fullR R S bs = (fullV bs, true) := by unfold fullR; rw [h]; rfl
set_option maxHeartbeats 1000000 in
theorem c_impl_FullOfSieve (R S : Int) (a : Option Addr) (n cap : Nat) (bs : List Bool) (w : World) {v : Option Nat} {b : Bool} (hv : fullR R S bs = (v, b)) (hm : n ≤ maxLen) (h : Reads w a n (bools bs)) :
    Calls Try.prog 111 #[.agg #[.int .i64 R, .int .i64 S, .slice a n cap]] w (RetFE v b w) := by
  have hn := h.bool.1
  subst hn
  have H := Lib.hid h
  have BX := Lib.hid (Box.alloc w #[.int .i64 R, .int .i64 S, .slice a bs.length cap] 75)
  clear h
  cases hc : gridB R S bs.length
  · rw [fullR_no hc] at hv
    simp only [Prod.mk.injEq] at hv
    obtain ⟨rfl, rfl⟩ := hv
    have HC := Lib.hid hc
    clear hc
    go_enter Try.func111, Try.ntmps111
    go_wp2_with fail
    refine (c_impl_ValidSieve_n R S a bs.length cap _ HC.out hm).mono ?_; rintro e u1 ⟨rfl, x1⟩
    have X : Ext w u1 := Ext.trans (by (repeat (first | assumption | exact Ext.refl _ | (with_reducible refine Ext.stepS ?_ (by first | exact Nat.le_refl _ | (simp; done) | (simp; omega)) _) | (with_reducible refine Ext.stepN ?_ _) | (with_reducible refine Ext.stepD ?_) | (with_reducible refine Ext.stepA ?_ _)))) x1
    clear x1
    go_wp2
    go_ret2
    exact RetFE.no _ _ X
  rw [fullR_y hc] at hv
  simp only [Prod.mk.injEq] at hv
  obtain ⟨hv, rfl⟩ := hv
  obtain ⟨r, m, hr1, hm1, ok⟩ := grid_ok hc
  have hn1 : 1 ≤ bs.length := by have := ok.n1; omega
  have hn5 : bs.length ≤ 512 := by have := ok.n512; omega
  have HV := Lib.hid hv
  have HC := Lib.hid hc
  clear hv hc hr1 hm1 ok
  go_enter Try.func111, Try.ntmps111
  go_wp2_with fail
  refine (c_impl_ValidSieve_n R S a bs.length cap _ HC.out hm).mono ?_; rintro e u1 ⟨rfl, x1⟩
  have X1 := Lib.hid (show Ext w u1 from Ext.trans (by (repeat (first | assumption | exact Ext.refl _ | (with_reducible refine Ext.stepS ?_ (by first | exact Nat.le_refl _ | (simp; done) | (simp; omega)) _) | (with_reducible refine Ext.stepN ?_ _) | (with_reducible refine Ext.stepD ?_) | (with_reducible refine Ext.stepA ?_ _)))) x1)
  obtain ⟨b0, b1, b2⟩ := (BX.out.on x1).three
  clear x1
  go_wp2_with fail
  go_loop [4, 13] (fun c i => ∃ k : Nat, k ≤ bs.length ∧ i = .int .i64 k ∧ c = .int .i64 (cntN bs k : Nat)) (fun _ i => bs.length - (intOf i).toNat)
  case atStart => exact ⟨0, Nat.zero_le _, rfl, rfl⟩
  case round =>
    obtain ⟨k, hk, rfl, rfl⟩ := hrel
    have hcb := cntN_le bs k
    by_cases hlt : k < bs.length
    · obtain ⟨ab, ao, rfl, hac⟩ : ∃ b' off, a = some ⟨b', off, none⟩ ∧ u1.cell? ⟨b', off + k, none⟩ = some (.bool (bs[k]?.getD false)) := by
        obtain ⟨_, hq⟩ := (H.out.on X1.out).bool
        rcases hq with h0 | ⟨b', off', rfl, hq⟩
        · omega
        · exact ⟨b', off', rfl, hq k hlt⟩
      obtain ⟨x, hx⟩ : ∃ x, bs[k]?.getD false = x := ⟨_, rfl⟩
      have HS := Lib.hid (show cntN bs (k + 1) = cntN bs k + x.toNat by show cntN bs k + (bs[k]?.getD false).toNat = _; rw [hx])
      obtain ⟨y, hy⟩ : ∃ y, cntN bs k = y := ⟨_, rfl⟩
      rw [hy] at hcb HS ⊢
      have HY := Lib.hid hy
      rw [hx] at hac
      have hkl : (k : Int) < (bs.length : Int) := by omega
      have hy5 : (y : Int) < 1000 := by omega
      clear hx hy
      cases x
      · go_wp2
        go_round
        case rel => exact ⟨k + 1, by omega, by go_num, by rw [HS.out]; rfl⟩
        case measure => simp [intOf]; omega
      · go_wp2
        go_round
        case rel => exact ⟨k + 1, by omega, by go_num, by rw [HS.out]; simp [Bool.toNat]⟩
        case measure => simp [intOf]; omega
    · obtain rfl : k = bs.length := by omega
      obtain ⟨y, hy⟩ : ∃ y, cntN bs bs.length = y := ⟨_, rfl⟩
      have HY := Lib.hid hy
      rw [hy]
      clear hy
      go_wp2
      try go_region
      all_goals
        try go_wp2
        go_ret2
        exact ⟨_, rfl, by rw [← HV.out]; simp only [fv_flR, fullV, fI, HY.out], by have := X1.out; (repeat (first | assumption | exact Ext.refl _ | (with_reducible refine Ext.stepS ?_ (by first | exact Nat.le_refl _ | (simp; done) | (simp; omega)) _) | (with_reducible refine Ext.stepN ?_ _) | (with_reducible refine Ext.stepD ?_) | (with_reducible refine Ext.stepA ?_ _)))⟩
set_option maxHeartbeats 1000000 in
theorem c_spec_l04Full (q : Nat) (R S : Int) (a : Option Addr) (n cap : Nat) (bs : List Bool) (w : World) (hn : n ≤ 512) (hn1 : 1 ≤ n) (h : Reads w a n (bools bs)) (hb : Box w q 75 #[.int .i64 R, .int .i64 S, .slice a n cap]) :
    Calls Try.prog 109 #[.pointer (some ⟨q, 0, none⟩)] w fun e w' => ∃ r, e = .returned (.float .f32 r) ∧ fv .f32 r = fullV bs ∧ Ext w w' := by
  have hnb := h.bool.1
  subst hnb
  have H := Lib.hid h
  obtain ⟨b0, b1, b2⟩ := hb.three
  clear h hb
  go_enter Try.func109, Try.ntmps109
  go_wp2_with fail
  go_loop [3, 4] (fun c i => ∃ k : Nat, k ≤ bs.length ∧ i = .int .i64 k ∧ c = .int .i64 (cntN bs k : Nat)) (fun _ i => bs.length - (intOf i).toNat)
  case atStart => exact ⟨0, Nat.zero_le _, rfl, rfl⟩
  case round =>
    obtain ⟨k, hk, rfl, rfl⟩ := hrel
    have hcb := cntN_le bs k
    by_cases hlt : k < bs.length
    · obtain ⟨ab, ao, rfl, hac⟩ : ∃ b' off, a = some ⟨b', off, none⟩ ∧ w.cell? ⟨b', off + k, none⟩ = some (.bool (bs[k]?.getD false)) := by
        obtain ⟨_, hq⟩ := (H.out).bool
        rcases hq with h0 | ⟨b', off', rfl, hq⟩
        · omega
        · exact ⟨b', off', rfl, hq k hlt⟩
      obtain ⟨x, hx⟩ : ∃ x, bs[k]?.getD false = x := ⟨_, rfl⟩
      have HS := Lib.hid (show cntN bs (k + 1) = cntN bs k + x.toNat by show cntN bs k + (bs[k]?.getD false).toNat = _; rw [hx])
      obtain ⟨y, hy⟩ : ∃ y, cntN bs k = y := ⟨_, rfl⟩
      rw [hy] at hcb HS ⊢
      have HY := Lib.hid hy
      rw [hx] at hac
      have hkl : (k : Int) < (bs.length : Int) := by omega
      have hy5 : (y : Int) < 1000 := by omega
      clear hx hy
      cases x
      · go_wp2
        go_round
        case rel => exact ⟨k + 1, by omega, by go_num, by rw [HS.out]; rfl⟩
        case measure => simp [intOf]; omega
      · go_wp2
        go_round
        case rel => exact ⟨k + 1, by omega, by go_num, by rw [HS.out]; simp [Bool.toNat]⟩
        case measure => simp [intOf]; omega
    · obtain rfl : k = bs.length := by omega
      obtain ⟨y, hy⟩ : ∃ y, cntN bs bs.length = y := ⟨_, rfl⟩
      have HY := Lib.hid hy
      rw [hy]
      clear hy
      go_wp2
      try go_region
      all_goals
        try go_wp2
        go_ret
        exact ⟨_, rfl, by simp only [fv_flR, fullV, fI, HY.out], by (repeat (first | assumption | exact Ext.refl _ | (with_reducible refine Ext.stepS ?_ (by first | exact Nat.le_refl _ | (simp; done) | (simp; omega)) _) | (with_reducible refine Ext.stepN ?_ _) | (with_reducible refine Ext.stepD ?_) | (with_reducible refine Ext.stepA ?_ _)))⟩
end Go.Proofs.Ytplngjbllllanaa
