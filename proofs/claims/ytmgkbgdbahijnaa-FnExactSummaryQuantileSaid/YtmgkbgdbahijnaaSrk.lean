/- SummaryRank: both sides. -/
import Derived.Test.YtmgkbgdbahijnaaRof
import Derived.Test.YtmgkbgdbahijnaaPlc
import Derived.Deep.RegionHeld3
import Derived.Deep.DeepCutAuto
import Derived.Deep.LoopGhost
namespace Go.Proofs.Ytmgkbgdbahijnaa
open Go.ChangeShapes Go.WideShapes Go.ChangeAt Go.RowKit Go.Proofs.Ytmgkbgdbahijnaa.Flo
set_option linter.unusedVariables false
theorem asc_split {ys : List Nat} (ha : AscF ys) (x : Nat) : ∀ m, m ≤ ys.length → ∃ i, i ≤ m ∧ (∀ j, j < i → fkey (getN ys j) ≤ fkey x) ∧ (∀ j, i ≤ j → j < m → fkey x < fkey (getN ys j))
  | 0, _ => ⟨0, Nat.le_refl _, fun j hj => by omega, fun j h1 h2 => by omega⟩
  | m + 1, hm => by
    obtain ⟨i, hi, h1, h2⟩ := asc_split ha x m (by omega)
    by_cases e : i < m
    · have h3 := h2 i (Nat.le_refl _) e
      have h4 := ha i m (by omega) (by omega)
      refine ⟨i, by omega, h1, fun j h5 h6 => ?_⟩
      by_cases e2 : j < m
      · exact h2 j h5 e2
      · obtain rfl : j = m := by omega
        omega
    · obtain rfl : i = m := by omega
      by_cases e3 : fkey (getN ys i) ≤ fkey x
      · exact ⟨i + 1, by omega, fun j hj => by
          by_cases e4 : j = i
          · subst e4; exact e3
          · exact h1 j (by omega), fun j h5 h6 => by omega⟩
      · exact ⟨i, by omega, h1, fun j h5 h6 => by
          obtain rfl : j = i := by omega
          omega⟩
theorem cnt_iff {ys : List Nat} (ha : AscF ys) (x : Nat) {k : Nat} (hk : k < ys.length) : fkey (getN ys k) ≤ fkey x ↔ k < cntLe ys x := by
  obtain ⟨i, hi, h1, h2⟩ := asc_split ha x ys.length (Nat.le_refl _)
  rw [cntLe_at hi h1 h2]
  by_cases e : k < i
  · exact ⟨fun _ => e, fun _ => h1 k e⟩
  · have := h2 k (by omega) hk
    exact ⟨fun h => by omega, fun h => absurd h e⟩
def lowP (gs : List Int) (p : Nat) : Int := if p = 0 then 0 else lowR gs (p - 1)
def highP (C : Int) (gs ss : List Int) (n p : Nat) : Int := if p < n then highR gs ss p - 1 else C
theorem lowP_0 (gs : List Int) : lowP gs 0 = 0 := rfl
theorem lowP_s (gs : List Int) (m : Nat) : lowP gs (m + 1) = lowR gs m := by unfold lowP; rw [if_neg (by omega)]; rfl
theorem highP_y {C : Int} {gs ss : List Int} {n p : Nat} (h : p < n) : highP C gs ss n p = highR gs ss p - 1 := if_pos h
theorem highP_n {C : Int} {gs ss : List Int} {n p : Nat} (h : ¬ p < n) : highP C gs ss n p = C := if_neg h
def srankR (N C : Int) (vs : List Nat) (gs ss : List Int) (x : Nat) : Int × Int × Bool :=
  if summB N C vs gs ss && isFin .f32 x then (lowP gs (cntLe vs x), highP C gs ss vs.length (cntLe vs x), true) else (0, 0, false)
theorem srankR_1 {N C : Int} {vs : List Nat} {gs ss : List Int} {x : Nat} (h : summB N C vs gs ss = false) : srankR N C vs gs ss x = (0, 0, false) := by unfold srankR; rw [h]; rfl
theorem srankR_2 {N C : Int} {vs : List Nat} {gs ss : List Int} {x : Nat} (h : isFin .f32 x = false) : srankR N C vs gs ss x = (0, 0, false) := by unfold srankR; rw [h]; simp
theorem srankR_y {N C : Int} {vs : List Nat} {gs ss : List Int} {x : Nat} (h : summB N C vs gs ss = true) (h' : isFin .f32 x = true) : srankR N C vs gs ss x = (lowP gs (cntLe vs x), highP C gs ss vs.length (cntLe vs x), true) := by unfold srankR; rw [h, h']; rfl
theorem ret_iib {a b a' b' : Int} {c : Bool} (h : a = a') (h' : b = b') : Ending.returned (.tuple #[.int .i64 a, .int .i64 b, .bool c]) = .returned (.tuple #[.int .i64 a', .int .i64 b', .bool c]) := by rw [h, h']
theorem highR_bd {N C : Int} {vs : List Nat} {gs ss : List Int} (ok : SummOk N C vs gs ss) {k : Nat} (hk : k < vs.length) : 1 ≤ highR gs ss k ∧ highR gs ss k ≤ 2000000 := by
  have h1 := ok.gap k hk
  have h2 := ok.slack k hk
  have h3 := sumTo_mono (f := getI gs) (n := k + 1) (m := vs.length) (fun i hi => by have := ok.gap i hi; omega) (by omega)
  have h4 := (sumTo_pos (f := getI gs) (n := k) (fun i hi => by have := ok.gap i (by omega); omega)).1
  have h5 := ok.sum
  have h6 := ok.d.c2
  unfold highR
  rw [sumTo_succ] at *
  omega
set_option maxRecDepth 100000 in
set_option maxHeartbeats 4000000 in
theorem c_impl_SummaryRank (N C : Int) (a1 : Option Addr) (cap1 : Nat) (vs : List Nat) (a2 : Option Addr) (cap2 : Nat) (gs : List Int) (a3 : Option Addr) (cap3 : Nat) (ss : List Int) (x : Nat) (w : World) {v1 v2 : Int} {r : Bool} (hv : srankR N C vs gs ss x = (v1, v2, r)) (hl : vs.length + gs.length + ss.length ≤ 1048576) (h : Reads3 w a1 vs.length (flos vs) a2 gs.length (ints gs) a3 ss.length (ints ss)) (hb : ∀ z ∈ vs, z < 4294967296) (hx : x < 4294967296) :
    Calls Try.prog 33 #[.agg #[.int .i64 N, .int .i64 C, .slice a1 vs.length cap1, .slice a2 gs.length cap2, .slice a3 ss.length cap3], .float .f32 x] w fun e w' => e = .returned (.tuple #[.int .i64 v1, .int .i64 v2, .bool r]) ∧ Ext w w' := by
  have H := Lib.hid h
  have HL := Lib.hid hl
  have HB := Lib.hid hb
  have HX := Lib.hid hx
  have BX := Lib.hid (Box.alloc w #[.int .i64 N, .int .i64 C, .slice a1 vs.length cap1, .slice a2 gs.length cap2, .slice a3 ss.length cap3] 31)
  have X0 := Lib.hid (Ext.alloc w (.cells #[.int .i64 N, .int .i64 C, .slice a1 vs.length cap1, .slice a2 gs.length cap2, .slice a3 ss.length cap3] 31))
  obtain ⟨b0, b1, b2, b3, b4⟩ := BX.out.five
  cases ht : summB N C vs gs ss
  · rw [srankR_1 ht] at hv
    cases hv
    have HT := Lib.hid ht
    clear ht h hl hb hx
    go_enter Try.func33, Try.ntmps33
    go_wp2_with fail
    clear b0 b1 b2 b3 b4
    refine (c_impl_ValidSummary N C _ _ vs _ _ gs _ _ ss _ HT.out HL.out (H.out.on X0.out) HB.out).mono ?_; rintro e w1 ⟨rfl, x'⟩
    have X1 := Lib.hid (X0.out.trans x')
    clear x'
    go_wp2
    go_ret3
    exact ⟨rfl, X1.out⟩
  have HT := Lib.hid ht
  have OK := Lib.hid (summ_ok ht)
  cases hf : isFin .f32 x
  · rw [srankR_2 hf] at hv
    cases hv
    have HF := Lib.hid hf
    clear ht h hl hb hx hf
    go_enter Try.func33, Try.ntmps33
    go_wp2_with fail
    clear b0 b1 b2 b3 b4
    refine (c_impl_ValidSummary N C _ _ vs _ _ gs _ _ ss _ HT.out HL.out (H.out.on X0.out) HB.out).mono ?_; rintro e w1 ⟨rfl, x'⟩
    have X1 := Lib.hid (X0.out.trans x')
    clear x'
    go_wp2_with fail
    refine (c_impl_IsFinite_b x _ HX.out HF.out).mono ?_; rintro e w2 ⟨rfl, q, rfl⟩
    go_wp2
    go_ret3
    exact ⟨rfl, X1.out.stepN _⟩
  rw [srankR_y ht hf] at hv
  obtain ⟨P, hP⟩ : ∃ P, cntLe vs x = P := ⟨_, rfl⟩
  rw [hP] at hv
  have HF := Lib.hid hf
  have HP := Lib.hid hP
  have HV1 := Lib.hid (Prod.mk.inj hv).1
  have HV2 := Lib.hid (Prod.mk.inj (Prod.mk.inj hv).2).1
  obtain rfl : true = r := (Prod.mk.inj (Prod.mk.inj hv).2).2
  have hPn : P ≤ vs.length := by rw [← hP]; exact cntLe_le _ _
  have HG := Lib.hid (show gs.length = vs.length from OK.out.d.ge)
  have HS := Lib.hid (show ss.length = vs.length from OK.out.d.se)
  have HVX := Lib.hid (show vs.length ≤ 64 from OK.out.d.vx)
  clear ht h hl hb hx hf hP hv
  go_enter Try.func33, Try.ntmps33
  go_wp2_with fail
  clear b0 b1 b2 b3 b4
  refine (c_impl_ValidSummary N C _ _ vs _ _ gs _ _ ss _ HT.out HL.out (H.out.on X0.out) HB.out).mono ?_; rintro e w1 ⟨rfl, x'⟩
  have X1 := Lib.hid (X0.out.trans x')
  have B1 := Lib.hid (BX.out.on x')
  clear x'
  go_wp2_with fail
  refine (c_impl_IsFinite_b x _ HX.out HF.out).mono ?_; rintro e w2 ⟨rfl, q, rfl⟩
  obtain ⟨u, hu⟩ : ∃ u, w1.drewN q = u := ⟨_, rfl⟩
  have XU := Lib.hid (show Ext w u by rw [← hu]; exact X1.out.stepN _)
  have BU := Lib.hid (show Box u w.heap.size 31 #[.int .i64 N, .int .i64 C, .slice a1 vs.length cap1, .slice a2 gs.length cap2, .slice a3 ss.length cap3] by rw [← hu]; exact B1.out.on (Ext.drewN _ _))
  rw [hu]
  clear hu
  obtain ⟨b0, b1, b2, b3, b4⟩ := BU.out.five
  go_upto_region 3 with fail
  go_cut [7, 8] (fun s7 s8 wx => ∃ ra, s7 = .slice ra gs.length gs.length ∧ s8 = .int .i64 ((P : Nat) : Int) ∧ ReadsP wx ra gs.length (lowR gs) (highR gs ss) ∧ Ext u wx)
  case first =>
    go_region_held3 (fun w' => w'.cell? ⟨w.heap.size, 0, none⟩ = some (.int .i64 N) ∧ w'.cell? ⟨w.heap.size, 1, none⟩ = some (.int .i64 C) ∧ w'.cell? ⟨w.heap.size, 2, none⟩ = some (.slice a1 vs.length cap1) ∧ w'.cell? ⟨w.heap.size, 3, none⟩ = some (.slice a2 gs.length cap2) ∧ w'.cell? ⟨w.heap.size, 4, none⟩ = some (.slice a3 ss.length cap3)) (first | exact KA | go_keep)
      (first | (go_at_call 75; refine (c_impl_ranksIn N C _ _ _ _ gs.length _ gs _ ss.length _ ss _ (by have := HG.out; have := HVX.out; omega) (by have := HG.out; have := HS.out; omega) OK.out.d.c2 (fun i hi => OK.out.gap i (by have := HG.out; omega)) (fun i hi => OK.out.slack i (by have := HG.out; omega)) (H.out.on (XU.out.trans (by (repeat (first | assumption | exact Ext.refl _ | (with_reducible refine Ext.stepS ?_ (by first | exact Nat.le_refl _ | (simp; done) | (simp; omega)) _) | (with_reducible refine Ext.stepN ?_ _) | (with_reducible refine Ext.stepD ?_) | (with_reducible refine Ext.stepA ?_ _)))))).r2 (H.out.on (XU.out.trans (by (repeat (first | assumption | exact Ext.refl _ | (with_reducible refine Ext.stepS ?_ (by first | exact Nat.le_refl _ | (simp; done) | (simp; omega)) _) | (with_reducible refine Ext.stepN ?_ _) | (with_reducible refine Ext.stepD ?_) | (with_reducible refine Ext.stepA ?_ _)))))).r3).mono ?_; rintro e v1 ⟨ra, rfl, rp, x1⟩; have EA : Ext u v1 := Ext.trans (by (repeat (first | assumption | exact Ext.refl _ | (with_reducible refine Ext.stepS ?_ (by first | exact Nat.le_refl _ | (simp; done) | (simp; omega)) _) | (with_reducible refine Ext.stepN ?_ _) | (with_reducible refine Ext.stepD ?_) | (with_reducible refine Ext.stepA ?_ _)))) x1; have KA := (BU.out.on EA).five; have RP := Lib.hid rp; clear x1 rp) | (go_at_call 78; refine (c_impl_placeBehind _ _ _ vs x _ (by have := HVX.out; omega) OK.out.fin HF.out (ascB_asc OK.out.asc) (H.out.on (XU.out.trans (by (repeat (first | assumption | exact Ext.refl _ | (with_reducible refine Ext.stepS ?_ (by first | exact Nat.le_refl _ | (simp; done) | (simp; omega)) _) | (with_reducible refine Ext.stepN ?_ _) | (with_reducible refine Ext.stepD ?_) | (with_reducible refine Ext.stepA ?_ _)))))).r1).mono ?_; rw [HP.out]; rintro e v2 ⟨rfl, x1⟩; have EA : Ext u v2 := Ext.trans (by (repeat (first | assumption | exact Ext.refl _ | (with_reducible refine Ext.stepS ?_ (by first | exact Nat.le_refl _ | (simp; done) | (simp; omega)) _) | (with_reducible refine Ext.stepN ?_ _) | (with_reducible refine Ext.stepD ?_) | (with_reducible refine Ext.stepA ?_ _)))) x1; have KA := (BU.out.on EA).five; (try (have OO := Lib.hid (RP.out.on (Ext.trans (by (repeat (first | assumption | exact Ext.refl _ | (with_reducible refine Ext.stepS ?_ (by first | exact Nat.le_refl _ | (simp; done) | (simp; omega)) _) | (with_reducible refine Ext.stepN ?_ _) | (with_reducible refine Ext.stepD ?_) | (with_reducible refine Ext.stepA ?_ _)))) x1)); clear RP; have RP := OO; clear OO)); clear x1))
    all_goals
      go_wp2_with fail
      go_meet
      exact ⟨_, rfl, rfl, RP.out, EA⟩
  case rest =>
    obtain ⟨ra, rfl, rfl, rp, x'⟩ := hcut
    have XC := Lib.hid (XU.out.trans x')
    have BC := Lib.hid (BU.out.on x')
    clear b0 b1 b2 b3 b4 x'
    obtain ⟨b0, b1, b2, b3, b4⟩ := BC.out.five
    have RP := Lib.hid rp
    clear rp
    have hbd := fun (k : Nat) (hk : k < vs.length) => highR_bd OK.out hk
    have HBD := Lib.hid hbd
    clear hbd
    rcases Nat.eq_zero_or_pos P with hp0 | hp0
    · subst hp0
      by_cases hn : 0 < vs.length
      · rcases RP.out with h0 | ⟨gb, go, rfl, hc⟩
        · exfalso; have := HG.out; omega
        obtain ⟨_, c2⟩ := hc 0 (by have := HG.out; omega)
        obtain ⟨hh, hhh⟩ : ∃ hh, highR gs ss 0 = hh := ⟨_, rfl⟩
        have hb := HBD.out 0 hn
        rw [hhh] at c2 hb
        have L1 := Lib.hid (show (0 : Int) = v1 from HV1.out)
        have L2 := Lib.hid (show hh - 1 = v2 by rw [← HV2.out, highP_y hn, hhh])
        have kg : (0 : Int) < (gs.length : Int) := by have := HG.out; omega
        have ew := Lib.hid (show wrap64 (hh - 1) = hh - 1 by unfold wrap64; omega)
        have hb1 := hb.1
        have hb2 := hb.2
        clear hc hhh hb
        go_upto_region 4 with fail
        go_quiet (fail)
        go_wp2
        go_ret3
        exact ⟨ret_iib L1.out (by first | exact L2.out | (rw [ew.out]; exact L2.out)), XC.out.stepN _⟩
      · have L1 := Lib.hid (show (0 : Int) = v1 from HV1.out)
        have L2 := Lib.hid (show C = v2 by rw [← HV2.out, highP_n hn])
        have kg : ¬ (0 : Int) < (gs.length : Int) := by have := HG.out; omega
        go_upto_region 4 with fail
        go_quiet (fail)
        go_wp2
        go_ret3
        exact ⟨ret_iib L1.out L2.out, XC.out.stepN _⟩
    · obtain ⟨m, rfl⟩ : ∃ m, P = m + 1 := ⟨P - 1, by omega⟩
      rcases RP.out with h0 | ⟨gb, go, rfl, hc⟩
      · exfalso; have := HG.out; omega
      obtain ⟨c1, _⟩ := hc m (by have := HG.out; omega)
      have k0 : (0 : Int) < (m : Int) + 1 := by omega
      have k1 : (m : Int) + 1 - 1 = (m : Int) := by omega
      have k3 : (0 : Int) ≤ (m : Int) + 1 := by omega
      have k5 : (m : Int) ≤ 64 := by have := HVX.out; omega
      have k6 : wrap64 (m : Int) = (m : Int) := by unfold wrap64; omega
      have k2 : (m : Int) < (gs.length : Int) := by have := HG.out; omega
      have L1 := Lib.hid (show lowR gs m = v1 by rw [← HV1.out, lowP_s])
      by_cases hn : m + 1 < vs.length
      · obtain ⟨_, c2⟩ := hc (m + 1) (by have := HG.out; omega)
        obtain ⟨hh, hhh⟩ : ∃ hh, highR gs ss (m + 1) = hh := ⟨_, rfl⟩
        have hb := HBD.out (m + 1) hn
        rw [hhh] at c2 hb
        have L2 := Lib.hid (show hh - 1 = v2 by rw [← HV2.out, highP_y hn, hhh])
        have kg : (m : Int) + 1 < (gs.length : Int) := by have := HG.out; omega
        have kg' : m + 1 < gs.length := by have := HG.out; omega
        have ew := Lib.hid (show wrap64 (hh - 1) = hh - 1 by unfold wrap64; omega)
        have hb1 := hb.1
        have hb2 := hb.2
        clear hc hhh hb
        go_upto_region 4 with fail
        go_quiet (fail)
        go_wp2
        go_ret3
        exact ⟨ret_iib L1.out (by first | exact L2.out | (rw [ew.out]; exact L2.out)), XC.out.stepN _⟩
      · have L2 := Lib.hid (show C = v2 by rw [← HV2.out, highP_n hn])
        have kg : ¬ (m : Int) + 1 < (gs.length : Int) := by have := HG.out; omega
        clear hc
        go_upto_region 4 with fail
        go_quiet (fail)
        go_wp2
        go_ret3
        exact ⟨ret_iib L1.out L2.out, XC.out.stepN _⟩
set_option maxRecDepth 100000 in
set_option maxHeartbeats 4000000 in
theorem c_spec_SummaryRank (N C : Int) (a1 : Option Addr) (cap1 : Nat) (vs : List Nat) (a2 : Option Addr) (cap2 : Nat) (gs : List Int) (a3 : Option Addr) (cap3 : Nat) (ss : List Int) (x : Nat) (w : World) {v1 v2 : Int} {r : Bool} (hv : srankR N C vs gs ss x = (v1, v2, r)) (hl : vs.length + gs.length + ss.length ≤ 1048576) (h : Reads3 w a1 vs.length (flos vs) a2 gs.length (ints gs) a3 ss.length (ints ss)) (hb : ∀ z ∈ vs, z < 4294967296) (hx : x < 4294967296) :
    Calls Try.prog 32 #[.agg #[.int .i64 N, .int .i64 C, .slice a1 vs.length cap1, .slice a2 gs.length cap2, .slice a3 ss.length cap3], .float .f32 x] w fun e w' => e = .returned (.tuple #[.int .i64 v1, .int .i64 v2, .bool r]) ∧ Ext w w' := by
  have H := Lib.hid h
  have HL := Lib.hid hl
  have BX := Lib.hid (Box.alloc w #[.int .i64 N, .int .i64 C, .slice a1 vs.length cap1, .slice a2 gs.length cap2, .slice a3 ss.length cap3] 31)
  have X0 := Lib.hid (Ext.alloc w (.cells #[.int .i64 N, .int .i64 C, .slice a1 vs.length cap1, .slice a2 gs.length cap2, .slice a3 ss.length cap3] 31))
  cases ht : summB N C vs gs ss
  · rw [srankR_1 ht] at hv
    cases hv
    have HT := Lib.hid ht
    clear ht h hl hb hx
    go_enter Try.func32, Try.ntmps32
    go_wp2_with fail
    refine (c_spec_l05Is _ N C _ _ vs _ _ gs _ _ ss _ HT.out HL.out (H.out.on X0.out) BX.out).mono ?_; rintro e w1 ⟨rfl, q, rfl⟩
    go_wp2
    go_ret3
    exact ⟨rfl, X0.out.stepN _⟩
  have HT := Lib.hid ht
  have OK := Lib.hid (summ_ok ht)
  cases hf : isFin .f32 x
  · rw [srankR_2 hf] at hv
    cases hv
    have HF := Lib.hid hf
    clear ht h hl hb hx hf
    go_enter Try.func32, Try.ntmps32
    go_wp2_with fail
    refine (c_spec_l05Is _ N C _ _ vs _ _ gs _ _ ss _ HT.out HL.out (H.out.on X0.out) BX.out).mono ?_; rintro e w1 ⟨rfl, q, rfl⟩
    go_wp2_with fail
    refine (c_spec_l01Finite_b x _ HF.out).mono ?_; rintro e w2 ⟨rfl, q2, rfl⟩
    go_wp2
    go_ret3
    exact ⟨rfl, by first | exact (X0.out.stepN _).stepN _ | exact X0.out.stepN _⟩
  rw [srankR_y ht hf] at hv
  obtain ⟨P, hP⟩ : ∃ P, cntLe vs x = P := ⟨_, rfl⟩
  rw [hP] at hv
  have HF := Lib.hid hf
  have HV1 := Lib.hid (Prod.mk.inj hv).1
  have HV2 := Lib.hid (Prod.mk.inj (Prod.mk.inj hv).2).1
  obtain rfl : true = r := (Prod.mk.inj (Prod.mk.inj hv).2).2
  have hPn : P ≤ vs.length := by rw [← hP]; exact cntLe_le _ _
  have HG := Lib.hid (show gs.length = vs.length from OK.out.d.ge)
  have HS := Lib.hid (show ss.length = vs.length from OK.out.d.se)
  have HVX := Lib.hid (show vs.length ≤ 64 from OK.out.d.vx)
  have HBD := Lib.hid (fun (k : Nat) (hk : k < vs.length) => highR_bd OK.out hk)
  have HIF := Lib.hid (fun (k : Nat) (hk : k < vs.length) => hP ▸ cnt_iff (ascB_asc OK.out.asc) x hk)
  clear ht h hl hb hx hf hP hv
  go_enter Try.func32, Try.ntmps32
  go_wp2_with fail
  refine (c_spec_l05Is _ N C _ _ vs _ _ gs _ _ ss _ HT.out HL.out (H.out.on X0.out) BX.out).mono ?_; rintro e w1 ⟨rfl, q, rfl⟩
  go_wp2_with fail
  refine (c_spec_l01Finite_b x _ HF.out).mono ?_; rintro e w2 ⟨rfl, q2, rfl⟩
  try rw [World.drewN_drewN]
  obtain ⟨u, hu⟩ : ∃ u, (w.alloc (.cells #[.int .i64 N, .int .i64 C, .slice a1 vs.length cap1, .slice a2 gs.length cap2, .slice a3 ss.length cap3] 31)).drewN (q + q2) = u := ⟨_, rfl⟩
  have XU := Lib.hid (show Ext w u by rw [← hu]; exact X0.out.stepN _)
  have BU := Lib.hid (show Box u w.heap.size 31 #[.int .i64 N, .int .i64 C, .slice a1 vs.length cap1, .slice a2 gs.length cap2, .slice a3 ss.length cap3] by rw [← hu]; exact BX.out.on (Ext.drewN _ _))
  rw [hu]
  clear hu
  obtain ⟨b0, b1, b2, b3, b4⟩ := BU.out.five
  go_wp2
  go_loopw [7, 8, 9, 25] (fun l h f i wr => ∃ k : Nat, ∃ z, k ≤ vs.length ∧ i = .int .i64 k ∧ l = .int .i64 (lowP gs (min k P)) ∧ h = .int .i64 (if P < k then highR gs ss P - 1 else C) ∧ f = .bool (decide (P < k)) ∧ wr = u.drewN z) (fun _ _ _ i _ => vs.length - (intOf i).toNat)
  case atStart => exact ⟨0, 0, Nat.zero_le _, rfl, by rw [Nat.zero_min]; rfl, by rw [if_neg (by omega)], by rw [decide_eq_false (by omega)], by first | rfl | rw [World.drewN_zero]⟩
  case round =>
    obtain ⟨k, z, hk, rfl, rfl, rfl, rfl, hw⟩ := hrel
    have HW := Lib.hid hw
    have XR := Lib.hid (show Ext u wr by rw [hw]; exact Ext.drewN _ _)
    clear hw
    have BR := Lib.hid (BU.out.on XR.out)
    by_cases hlt : k < vs.length
    · clear b0 b1 b2 b3 b4
      obtain ⟨b0, b1, b2, b3, b4⟩ := BR.out.five
      have kv1 : vs.length ≤ 64 := HVX.out
      have kv2 : (vs.length : Int) ≤ 64 := by omega
      have kv3 : (k : Int) ≤ 64 := by omega
      rcases (H.out.on (XU.out.trans XR.out)).r1.flo.2 with he | ⟨g, off, rfl, hc⟩
      · omega
      have hcell : wr.cell? ⟨g, off + k, none⟩ = some (.float .f32 (vs[k]?.getD 0)) := hc k hlt
      obtain ⟨y, hy⟩ : ∃ y, vs[k]?.getD 0 = y := ⟨_, rfl⟩
      have FY : isFin .f32 y = true := by rw [← hy]; exact finB_at OK.out.fin hlt
      have kl := key_lt FY HF.out
      have ke := key_eq FY HF.out
      have hif := HIF.out k hlt
      rw [show getN vs k = y from hy] at hif
      rw [hy] at hcell
      obtain ⟨h1, hh1⟩ : ∃ h1, lowR gs k = h1 := ⟨_, rfl⟩
      obtain ⟨h2, hh2⟩ : ∃ h2, highR gs ss k = h2 := ⟨_, rfl⟩
      have hb := HBD.out k hlt
      rw [hh2] at hb
      have hb1 := hb.1
      have hb2 := hb.2
      have ew := Lib.hid (show wrap64 (h2 - 1) = h2 - 1 by unfold wrap64; omega)
      have HH1 := Lib.hid hh1
      have HH2 := Lib.hid hh2
      have HKP := Lib.hid hPn
      clear hc hy FY hh1 hh2 hb
      by_cases hle : k < P
      · have hle2 : fkey y ≤ fkey x := hif.2 hle
        have e1 : min k P = k := by omega
        have f1 : decide (P < k) = false := decide_eq_false (by omega)
        have f2 : decide (P < k + 1) = false := decide_eq_false (by omega)
        rw [e1, if_neg (show ¬ P < k by omega), f1]
        by_cases hlt2 : fkey y < fkey x
        · rw [decide_eq_true hlt2] at kl
          clear hle2 hlt2 hif
          go_wp2_with fail
          refine (c_spec_l05Ranks _ N C _ _ _ _ gs.length _ gs _ ss.length _ ss k _ HH1.out HH2.out (by have := HG.out; omega) (by have := HG.out; have := HVX.out; omega) (by have := HG.out; have := HS.out; omega) OK.out.d.c2 (fun i hi => OK.out.gap i (by have := HG.out; omega)) (fun i hi => OK.out.slack i (by have := HG.out; omega)) (H.out.on (XU.out.trans XR.out)).r2 (H.out.on (XU.out.trans XR.out)).r3 BR.out).mono ?_; rintro e w3 ⟨rfl, q3, rfl⟩
          have HZ := Lib.hid (show wr.drewN q3 = u.drewN (z + q3) by rw [HW.out, World.drewN_drewN])
          go_wp2
          go_roundw
          case rel => exact ⟨k + 1, z + q3, by omega, by go_num, by rw [show min (k + 1) P = k + 1 by omega, lowP_s, HH1.out], by rw [if_neg (by omega)], by rw [f2], HZ.out⟩
          case measure => simp [intOf]; omega
        · rw [decide_eq_false hlt2] at kl
          rw [decide_eq_true (show fkey y = fkey x by omega)] at ke
          clear hle2 hlt2 hif
          go_wp2_with fail
          refine (c_spec_l05Ranks _ N C _ _ _ _ gs.length _ gs _ ss.length _ ss k _ HH1.out HH2.out (by have := HG.out; omega) (by have := HG.out; have := HVX.out; omega) (by have := HG.out; have := HS.out; omega) OK.out.d.c2 (fun i hi => OK.out.gap i (by have := HG.out; omega)) (fun i hi => OK.out.slack i (by have := HG.out; omega)) (H.out.on (XU.out.trans XR.out)).r2 (H.out.on (XU.out.trans XR.out)).r3 BR.out).mono ?_; rintro e w3 ⟨rfl, q3, rfl⟩
          have HZ := Lib.hid (show wr.drewN q3 = u.drewN (z + q3) by rw [HW.out, World.drewN_drewN])
          go_wp2
          go_roundw
          case rel => exact ⟨k + 1, z + q3, by omega, by go_num, by rw [show min (k + 1) P = k + 1 by omega, lowP_s, HH1.out], by rw [if_neg (by omega)], by rw [f2], HZ.out⟩
          case measure => simp [intOf]; omega
      · have hle2 : ¬ fkey y ≤ fkey x := fun h => hle (hif.1 h)
        rw [decide_eq_false (show ¬ fkey y < fkey x by omega)] at kl
        rw [decide_eq_false (show ¬ fkey y = fkey x by omega)] at ke
        have e1 : min k P = P := by omega
        rw [e1]
        by_cases hpk : P < k
        · have f1 : decide (P < k) = true := decide_eq_true hpk
          rw [if_pos hpk, f1]
          clear hif hle2
          go_wp2_with fail
          refine (c_spec_l05Ranks _ N C _ _ _ _ gs.length _ gs _ ss.length _ ss k _ HH1.out HH2.out (by have := HG.out; omega) (by have := HG.out; have := HVX.out; omega) (by have := HG.out; have := HS.out; omega) OK.out.d.c2 (fun i hi => OK.out.gap i (by have := HG.out; omega)) (fun i hi => OK.out.slack i (by have := HG.out; omega)) (H.out.on (XU.out.trans XR.out)).r2 (H.out.on (XU.out.trans XR.out)).r3 BR.out).mono ?_; rintro e w3 ⟨rfl, q3, rfl⟩
          have HZ := Lib.hid (show wr.drewN q3 = u.drewN (z + q3) by rw [HW.out, World.drewN_drewN])
          go_wp2
          go_roundw
          case rel => exact ⟨k + 1, z + q3, by omega, by go_num, by rw [show min (k + 1) P = P by omega], by rw [if_pos (show P < k + 1 by omega)], by rw [decide_eq_true (show P < k + 1 by omega)], HZ.out⟩
          case measure => simp [intOf]; omega
        · have hPk : P = k := by omega
          have f1 : decide (P < k) = false := decide_eq_false (by omega)
          have HPK := Lib.hid (show highR gs ss P - 1 = h2 - 1 by rw [hPk, HH2.out])
          rw [if_neg (show ¬ P < k by omega), f1]
          clear hif hle2
          go_wp2_with fail
          refine (c_spec_l05Ranks _ N C _ _ _ _ gs.length _ gs _ ss.length _ ss k _ HH1.out HH2.out (by have := HG.out; omega) (by have := HG.out; have := HVX.out; omega) (by have := HG.out; have := HS.out; omega) OK.out.d.c2 (fun i hi => OK.out.gap i (by have := HG.out; omega)) (fun i hi => OK.out.slack i (by have := HG.out; omega)) (H.out.on (XU.out.trans XR.out)).r2 (H.out.on (XU.out.trans XR.out)).r3 BR.out).mono ?_; rintro e w3 ⟨rfl, q3, rfl⟩
          have HZ := Lib.hid (show wr.drewN q3 = u.drewN (z + q3) by rw [HW.out, World.drewN_drewN])
          go_wp2
          go_roundw
          case rel => exact ⟨k + 1, z + q3, by omega, by go_num, by first | (rw [show min (k + 1) P = P by omega]; done) | (rw [show min (k + 1) P = P by omega, hPk]; done) | (rw [show min (k + 1) P = P by omega]; rw [hPk]), by first | (rw [if_pos (show P < k + 1 by omega), HPK.out]; done) | (rw [if_pos (show P < k + 1 by omega), HPK.out, ew.out]; done) | (rw [if_pos (show P < k + 1 by omega), HPK.out]; rfl), by rw [decide_eq_true (show P < k + 1 by omega)], HZ.out⟩
          case measure => simp [intOf]; omega
    · obtain rfl : k = vs.length := by omega
      have L1 := Lib.hid (show lowP gs (min vs.length P) = v1 by rw [show min vs.length P = P by omega]; exact HV1.out)
      have L2 := Lib.hid (show (if P < vs.length then highR gs ss P - 1 else C) = v2 from HV2.out)
      rw [L1.out, L2.out]
      go_wp2
      go_ret3
      exact ⟨rfl, XU.out.trans XR.out⟩
end Go.Proofs.Ytmgkbgdbahijnaa
