/- RanksOf: both sides. -/
import Derived.Test.YtmgkbgdbahijnaaRks
namespace Go.Proofs.Ytmgkbgdbahijnaa
open Go.ChangeShapes Go.WideShapes Go.ChangeAt Go.RowKit Go.Proofs.Ytmgkbgdbahijnaa.Flo
set_option linter.unusedVariables false
def ranksR (N C : Int) (vs : List Nat) (gs ss : List Int) (i : Int) : Int × Int × Bool :=
  if summB N C vs gs ss && decide (0 ≤ i ∧ i < (vs.length : Int)) then (lowR gs i.toNat, highR gs ss i.toNat, true) else (0, 0, false)
theorem ranksR_1 {N C : Int} {vs : List Nat} {gs ss : List Int} {i : Int} (h : summB N C vs gs ss = false) : ranksR N C vs gs ss i = (0, 0, false) := by unfold ranksR; rw [h]; rfl
theorem ranksR_2 {N C : Int} {vs : List Nat} {gs ss : List Int} {i : Int} (h : ¬ (0 ≤ i ∧ i < (vs.length : Int))) : ranksR N C vs gs ss i = (0, 0, false) := by unfold ranksR; rw [decide_eq_false h]; simp
theorem ranksR_y {N C : Int} {vs : List Nat} {gs ss : List Int} {k : Nat} (h : summB N C vs gs ss = true) (h' : k < vs.length) : ranksR N C vs gs ss (k : Int) = (lowR gs k, highR gs ss k, true) := by
  unfold ranksR; rw [h, decide_eq_true (show 0 ≤ (k : Int) ∧ (k : Int) < (vs.length : Int) by omega)]; rfl
set_option maxHeartbeats 4000000 in
theorem c_impl_RanksOf (N C : Int) (a1 : Option Addr) (cap1 : Nat) (vs : List Nat) (a2 : Option Addr) (cap2 : Nat) (gs : List Int) (a3 : Option Addr) (cap3 : Nat) (ss : List Int) (i : Int) (w : World) {v1 v2 : Int} {r : Bool} (hv : ranksR N C vs gs ss i = (v1, v2, r)) (hl : vs.length + gs.length + ss.length ≤ 1048576) (h : Reads3 w a1 vs.length (flos vs) a2 gs.length (ints gs) a3 ss.length (ints ss)) (hb : ∀ z ∈ vs, z < 4294967296) :
    Calls Try.prog 31 #[.agg #[.int .i64 N, .int .i64 C, .slice a1 vs.length cap1, .slice a2 gs.length cap2, .slice a3 ss.length cap3], .int .i64 i] w fun e w' => e = .returned (.tuple #[.int .i64 v1, .int .i64 v2, .bool r]) ∧ Ext w w' := by
  have H := Lib.hid h
  have HL := Lib.hid hl
  have HB := Lib.hid hb
  have BX := Lib.hid (Box.alloc w #[.int .i64 N, .int .i64 C, .slice a1 vs.length cap1, .slice a2 gs.length cap2, .slice a3 ss.length cap3] 31)
  have X0 := Lib.hid (Ext.alloc w (.cells #[.int .i64 N, .int .i64 C, .slice a1 vs.length cap1, .slice a2 gs.length cap2, .slice a3 ss.length cap3] 31))
  obtain ⟨b0, b1, b2, b3, b4⟩ := BX.out.five
  cases ht : summB N C vs gs ss
  · rw [ranksR_1 ht] at hv
    cases hv
    have HT := Lib.hid ht
    clear ht h hl hb
    go_enter Try.func31, Try.ntmps31
    go_wp2_with fail
    clear b0 b1 b2 b3 b4
    refine (c_impl_ValidSummary N C _ _ vs _ _ gs _ _ ss _ HT.out HL.out (H.out.on X0.out) HB.out).mono ?_; rintro e w1 ⟨rfl, x'⟩
    have X1 := Lib.hid (X0.out.trans x')
    clear x'
    go_wp2
    go_ret3
    exact ⟨rfl, X1.out⟩
  have HT := Lib.hid ht
  have OK := Lib.hid (summ_ok ht)
  by_cases hi : 0 ≤ i ∧ i < (vs.length : Int)
  · obtain ⟨K, rfl⟩ : ∃ K : Nat, i = (K : Int) := ⟨i.toNat, by omega⟩
    have hk : K < vs.length := by omega
    rw [ranksR_y ht hk] at hv
    cases hv
    have kg : (K : Int) < (gs.length : Int) := by have := OK.out.d.ge; omega
    have k1 := hi.2
    have k2 : ¬ (vs.length : Int) ≤ (K : Int) := by omega
    have k3 : (0 : Int) ≤ (K : Int) := by omega
    clear ht h hl hb hi
    go_enter Try.func31, Try.ntmps31
    go_wp2_with fail
    clear b0 b1 b2 b3 b4
    refine (c_impl_ValidSummary N C _ _ vs _ _ gs _ _ ss _ HT.out HL.out (H.out.on X0.out) HB.out).mono ?_; rintro e w1 ⟨rfl, x'⟩
    obtain ⟨b0, b1, b2, b3, b4⟩ := (BX.out.on x').five
    have X1 := Lib.hid (X0.out.trans x')
    clear x'
    go_wp2_with fail
    clear b0 b1 b2 b3 b4
    refine (c_impl_ranksIn N C _ _ _ _ gs.length _ gs _ ss.length _ ss _ (by have := OK.out.d.ge; have := OK.out.d.vx; omega) (by have := OK.out.d.ge; have := OK.out.d.se; omega) OK.out.d.c2 (fun i hi => OK.out.gap i (by have := OK.out.d.ge; omega)) (fun i hi => OK.out.slack i (by have := OK.out.d.ge; omega)) (H.out.on X1.out).r2 (H.out.on X1.out).r3).mono ?_; rintro e w2 ⟨ra, rfl, rp, x'⟩
    have X2 := Lib.hid (X1.out.trans x')
    clear x'
    rcases rp with h0 | ⟨gb, go, rfl, hc⟩
    · exfalso; omega
    obtain ⟨c1, c2⟩ := hc K (by omega)
    clear hc
    go_upto_region 4 with fail
    obtain ⟨d0, d1⟩ := (Box.alloc w2 #[.int .i64 (lowR gs K), .int .i64 (highR gs ss K)] 84).two
    go_quiet (fail)
    go_wp2
    go_ret3
    exact ⟨rfl, ((X2.out.stepA _).stepN _)⟩
  · rw [ranksR_2 hi] at hv
    cases hv
    have hi' : i < 0 ∨ (vs.length : Int) ≤ i := by omega
    clear ht h hl hb hi
    rcases hi' with hi | hi
    all_goals
      go_enter Try.func31, Try.ntmps31
      go_wp2_with fail
      clear b0 b1 b2 b3 b4
      refine (c_impl_ValidSummary N C _ _ vs _ _ gs _ _ ss _ HT.out HL.out (H.out.on X0.out) HB.out).mono ?_; rintro e w1 ⟨rfl, x'⟩
      obtain ⟨b0, b1, b2, b3, b4⟩ := (BX.out.on x').five
      have X1 := Lib.hid (X0.out.trans x')
      clear x'
      go_wp2
      go_ret3
      exact ⟨rfl, X1.out⟩
set_option maxHeartbeats 4000000 in
theorem c_spec_l05Ranks (qb : Nat) (N C : Int) (a1 : Option Addr) (n1 cap1 : Nat) (a2 : Option Addr) (n cap2 : Nat) (gs : List Int) (a3 : Option Addr) (n3 cap3 : Nat) (ss : List Int) (K : Nat) (w : World) {v1 v2 : Int} (hv1 : lowR gs K = v1) (hv2 : highR gs ss K = v2) (hk : K < n) (hn : n ≤ 64) (hn3 : n3 = n) (hC : C ≤ 1000000)
    (hg : ∀ i, i < n → 1 ≤ getI gs i ∧ getI gs i ≤ C) (hs : ∀ i, i < n → 0 ≤ getI ss i ∧ getI ss i ≤ C) (h2 : Reads w a2 n (ints gs)) (h3 : Reads w a3 n3 (ints ss))
    (hq : Box w qb 31 #[.int .i64 N, .int .i64 C, .slice a1 n1 cap1, .slice a2 n cap2, .slice a3 n3 cap3]) :
    Calls Try.prog 74 #[.pointer (some ⟨qb, 0, none⟩), .int .i64 (K : Int)] w fun e w' => e = .returned (.tuple #[.int .i64 v1, .int .i64 v2]) ∧ ∃ q, w' = w.drewN q := by
  subst hn3
  have HG := Lib.hid hg
  have HS := Lib.hid hs
  have H2 := Lib.hid h2.int.2
  have H3 := Lib.hid h3.int.2
  have HV1 := Lib.hid hv1
  have HV2 := Lib.hid hv2
  obtain ⟨b0, b1, b2, b3, b4⟩ := hq.five
  clear hg hs h2 h3 hq hv1 hv2
  rcases H2.out with h0 | ⟨gb, go, rfl, hc2⟩
  · exfalso; omega
  rcases H3.out with h0 | ⟨sb, so, rfl, hc3⟩
  · exfalso; omega
  have CG := Lib.hid hc2
  have CS := Lib.hid hc3
  clear hc2 hc3 H2 H3
  go_enter Try.func74, Try.ntmps74
  go_wp2
  go_loopw [6, 7] (fun s i wr => ∃ k : Nat, k ≤ K + 1 ∧ i = .int .i64 k ∧ s = .int .i64 (sumTo (getI gs) k) ∧ wr = w) (fun _ i _ => K + 1 - (intOf i).toNat)
  case atStart => exact ⟨0, Nat.zero_le _, rfl, rfl, rfl⟩
  case round =>
    obtain ⟨k, hk', rfl, rfl, rfl⟩ := hrel
    by_cases hlt : k ≤ K
    · have cg := CG.out k (by omega)
      obtain ⟨x, hx⟩ : ∃ x, gs[k]?.getD 0 = x := ⟨_, rfl⟩
      obtain ⟨s, hs⟩ : ∃ s, sumTo (getI gs) k = s := ⟨_, rfl⟩
      have hx' : getI gs k = x := hx
      have q1 := HG.out k (by omega)
      have q3 := sumTo_bd (f := getI gs) (n := k) (fun i hi => by have := HG.out i (by omega); omega)
      rw [hx'] at q1; rw [hs] at q3
      rw [hx] at cg
      have s1 : -65000000000000 ≤ s := by omega
      have s2 : s ≤ 65000000000000 := by omega
      obtain ⟨u, hu⟩ : ∃ u, s + x = u := ⟨_, rfl⟩
      have e1 : wrap64 (s + x) = u := by rw [hu]; unfold wrap64; omega
      have HE1 := Lib.hid e1
      have HU := Lib.hid (show sumTo (getI gs) (k + 1) = u by rw [sumTo_succ, hs, hx', hu])
      have hlt' : (k : Int) ≤ (K : Int) := by omega
      have hkn : k < n3 := by omega
      have hkn' : (k : Int) < (n3 : Int) := by omega
      rw [hs]
      clear hx hx' hs hu q1 q3
      go_wp2
      go_roundw
      case rel => exact ⟨k + 1, by omega, by go_num, by rw [HU.out]; first | rfl | rw [HE1.out], by first | rfl | trivial⟩
      case measure => simp [intOf]; omega
    · obtain rfl : k = K + 1 := by omega
      have cs := CS.out K (by omega)
      obtain ⟨y, hy⟩ : ∃ y, ss[K]?.getD 0 = y := ⟨_, rfl⟩
      obtain ⟨s, hs⟩ : ∃ s, sumTo (getI gs) (K + 1) = s := ⟨_, rfl⟩
      have hy' : getI ss K = y := hy
      have q2 := HS.out K (by omega)
      have q3 := sumTo_bd (f := getI gs) (n := K + 1) (fun i hi => by have := HG.out i (by omega); omega)
      rw [hy'] at q2; rw [hs] at q3
      rw [hy] at cs
      have s1 : -65000000000000 ≤ s := by omega
      have s2 : s ≤ 65000000000000 := by omega
      obtain ⟨u, hu⟩ : ∃ u, s + y = u := ⟨_, rfl⟩
      have e1 : wrap64 (s + y) = u := by rw [hu]; unfold wrap64; omega
      have HE1 := Lib.hid e1
      have L1 := Lib.hid (show s = v1 by rw [← HV1.out]; unfold lowR; rw [hs])
      have L2 := Lib.hid (show u = v2 by rw [← HV2.out]; unfold highR; rw [hs, hy', hu])
      have hn1 : ¬ ((K : Int) + 1) ≤ (K : Int) := by omega
      have hkn' : (K : Int) < (n3 : Int) := by omega
      have hK0 : (0 : Int) ≤ (K : Int) := by omega
      rw [hs]
      clear hy hy' hs hu q2 q3 hlt
      go_wp2
      go_quiet (fail)
      go_wp2
      go_ret2
      exact ⟨by rw [← L1.out, ← L2.out]; first | rfl | (rw [HE1.out]; done) | (rw [HE1.out]; rfl), _, rfl⟩
set_option maxRecDepth 100000 in
set_option maxHeartbeats 4000000 in
theorem c_spec_RanksOf (N C : Int) (a1 : Option Addr) (cap1 : Nat) (vs : List Nat) (a2 : Option Addr) (cap2 : Nat) (gs : List Int) (a3 : Option Addr) (cap3 : Nat) (ss : List Int) (i : Int) (w : World) {v1 v2 : Int} {r : Bool} (hv : ranksR N C vs gs ss i = (v1, v2, r)) (hl : vs.length + gs.length + ss.length ≤ 1048576) (h : Reads3 w a1 vs.length (flos vs) a2 gs.length (ints gs) a3 ss.length (ints ss)) (hb : ∀ z ∈ vs, z < 4294967296) :
    Calls Try.prog 30 #[.agg #[.int .i64 N, .int .i64 C, .slice a1 vs.length cap1, .slice a2 gs.length cap2, .slice a3 ss.length cap3], .int .i64 i] w fun e w' => e = .returned (.tuple #[.int .i64 v1, .int .i64 v2, .bool r]) ∧ Ext w w' := by
  have H := Lib.hid h
  have HL := Lib.hid hl
  have BX := Lib.hid (Box.alloc w #[.int .i64 N, .int .i64 C, .slice a1 vs.length cap1, .slice a2 gs.length cap2, .slice a3 ss.length cap3] 31)
  have X0 := Lib.hid (Ext.alloc w (.cells #[.int .i64 N, .int .i64 C, .slice a1 vs.length cap1, .slice a2 gs.length cap2, .slice a3 ss.length cap3] 31))
  cases ht : summB N C vs gs ss
  · rw [ranksR_1 ht] at hv
    cases hv
    have HT := Lib.hid ht
    clear ht h hl hb
    go_enter Try.func30, Try.ntmps30
    go_wp2_with fail
    refine (c_spec_l05Is _ N C _ _ vs _ _ gs _ _ ss _ HT.out HL.out (H.out.on X0.out) BX.out).mono ?_; rintro e w1 ⟨rfl, q, rfl⟩
    go_wp2
    go_ret3
    exact ⟨rfl, X0.out.stepN _⟩
  have HT := Lib.hid ht
  have OK := Lib.hid (summ_ok ht)
  have HW := Lib.hid (show wrap64 ((vs.length : Int) - 1) = (vs.length : Int) - 1 by have := OK.out.d.vx; unfold wrap64; omega)
  by_cases hi : 0 ≤ i ∧ i < (vs.length : Int)
  · obtain ⟨K, rfl⟩ : ∃ K : Nat, i = (K : Int) := ⟨i.toNat, by omega⟩
    have hk : K < vs.length := by omega
    rw [ranksR_y ht hk] at hv
    cases hv
    have HI := Lib.hid (show inB 0 (K : Int) ((vs.length : Int) - 1) = true from inB_is.2 ⟨by omega, by omega⟩)
    clear ht h hl hb hi
    go_enter Try.func30, Try.ntmps30
    go_wp2_with fail
    refine (c_spec_l05Is _ N C _ _ vs _ _ gs _ _ ss _ HT.out HL.out (H.out.on X0.out) BX.out).mono ?_; rintro e w1 ⟨rfl, q, rfl⟩
    obtain ⟨b0, b1, b2, b3, b4⟩ := (BX.out.on (Ext.drewN _ q)).five
    go_wp2_with fail
    refine (c_l00In_w _ _ _ _ (b := true) (by first | (with_reducible exact HI.out) | (rw [HW.out]; with_reducible exact HI.out))).mono ?_; rintro e w2 ⟨rfl, rfl⟩
    go_wp2_with fail
    refine (c_spec_l05Ranks _ N C _ _ _ _ gs.length _ gs _ ss.length _ ss K _ rfl rfl (by have := OK.out.d.ge; omega) (by have := OK.out.d.ge; have := OK.out.d.vx; omega) (by have := OK.out.d.ge; have := OK.out.d.se; omega) OK.out.d.c2 (fun i hi => OK.out.gap i (by have := OK.out.d.ge; omega)) (fun i hi => OK.out.slack i (by have := OK.out.d.ge; omega)) (H.out.on (X0.out.stepN q)).r2 (H.out.on (X0.out.stepN q)).r3 (BX.out.on (Ext.drewN _ q))).mono ?_; rintro e w3 ⟨rfl, q3, rfl⟩
    go_wp2
    go_ret3
    exact ⟨rfl, by first | exact (X0.out.stepN _).stepN _ | exact X0.out.stepN _ | (rw [World.drewN_drewN]; exact X0.out.stepN _)⟩
  · rw [ranksR_2 hi] at hv
    cases hv
    have HI := Lib.hid (show inB 0 i ((vs.length : Int) - 1) = false by
      cases hb : inB 0 i ((vs.length : Int) - 1)
      · rfl
      · have := inB_is.1 hb; omega)
    clear ht h hl hb hi
    go_enter Try.func30, Try.ntmps30
    go_wp2_with fail
    refine (c_spec_l05Is _ N C _ _ vs _ _ gs _ _ ss _ HT.out HL.out (H.out.on X0.out) BX.out).mono ?_; rintro e w1 ⟨rfl, q, rfl⟩
    obtain ⟨b0, b1, b2, b3, b4⟩ := (BX.out.on (Ext.drewN _ q)).five
    go_wp2_with fail
    refine (c_l00In_w _ _ _ _ (b := false) (by first | (with_reducible exact HI.out) | (rw [HW.out]; with_reducible exact HI.out))).mono ?_; rintro e w2 ⟨rfl, rfl⟩
    go_wp2
    go_ret3
    exact ⟨rfl, X0.out.stepN _⟩
end Go.Proofs.Ytmgkbgdbahijnaa
