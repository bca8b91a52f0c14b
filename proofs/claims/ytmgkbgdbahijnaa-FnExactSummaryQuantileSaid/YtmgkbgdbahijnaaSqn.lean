/- SummaryQuantile: the value whose ranks are nearest, by the program. -/
import Derived.Test.YtmgkbgdbahijnaaSrk
import Derived.Test.YtmgkbgdbahijnaaCei
namespace Go.Proofs.Ytmgkbgdbahijnaa
open Go.ChangeShapes Go.WideShapes Go.ChangeAt Go.RowKit Go.Proofs.Ytmgkbgdbahijnaa.Flo
set_option linter.unusedVariables false
/-- the first place of the least number -/
def leastM (f : Nat → Int) : Nat → Nat
  | 0 => 0
  | k + 1 => if f k < f (leastM f k) then k else leastM f k
theorem leastM_yes {f : Nat → Int} {k : Nat} (h : f k < f (leastM f k)) : leastM f (k + 1) = k := if_pos h
theorem leastM_no {f : Nat → Int} {k : Nat} (h : ¬ f k < f (leastM f k)) : leastM f (k + 1) = leastM f k := if_neg h
theorem leastM_lt (f : Nat → Int) : ∀ k, leastM f k ≤ k ∧ (0 < k → leastM f k < k)
  | 0 => ⟨Nat.le_refl _, fun h => by omega⟩
  | k + 1 => by
    have h := leastM_lt f k
    by_cases e : f k < f (leastM f k)
    · rw [leastM_yes e]; exact ⟨by omega, fun _ => by omega⟩
    · rw [leastM_no e]; exact ⟨by omega, fun _ => by omega⟩
theorem leastM_one (f : Nat → Int) : leastM f 1 = 0 := by unfold leastM leastM; split <;> rfl
def missF (K : Int) (f g : Nat → Int) (i : Nat) : Int := max (K - f i) (g i - K)
theorem c_far (rb : Nat) (K lo hi m : Int) (w : World) (hm : max (K - lo) (hi - K) = m) (k0 : 0 ≤ K) (k1 : K ≤ 2000000) (l0 : 0 ≤ lo) (l1 : lo ≤ 2000000) (h0 : 0 ≤ hi) (h1 : hi ≤ 2000000) (hc : w.cell? ⟨rb, 0, none⟩ = some (.int .i64 K)) :
    Calls Try.prog 84 #[.agg #[.int .i64 lo, .int .i64 hi], .pointer (some ⟨rb, 0, none⟩)] w fun e w' => e = .returned (.int .i64 m) ∧ Ext w w' := by
  obtain ⟨b0, b1⟩ := (Box.alloc w #[.int .i64 lo, .int .i64 hi] 84).two
  have hc' := (Ext.alloc w (.cells #[.int .i64 lo, .int .i64 hi] 84)).some hc
  obtain ⟨d1, hd1⟩ : ∃ d, K - lo = d := ⟨_, rfl⟩
  obtain ⟨d2, hd2⟩ : ∃ d, hi - K = d := ⟨_, rfl⟩
  have e1 : wrap64 (K - lo) = d1 := by rw [hd1]; unfold wrap64; omega
  have e2 : wrap64 (hi - K) = d2 := by rw [hd2]; unfold wrap64; omega
  have HM := Lib.hid hm
  have E1 := Lib.hid e1
  have E2 := Lib.hid e2
  have D1 := Lib.hid hd1
  have D2 := Lib.hid hd2
  clear hm hc
  go_enter Try.func84, Try.ntmps84
  go_wp2
  go_ret
  exact ⟨ret_if (by first | exact HM.out | (rw [← HM.out, D1.out, D2.out]; done) | (rw [← HM.out, D1.out, D2.out, E1.out, E2.out]; done) | (rw [← HM.out, D1.out, D2.out]; simp only [D1.out, D2.out, E1.out, E2.out]; done)), Ext.alloc _ _⟩
set_option maxHeartbeats 1000000 in
theorem c_near (rb fb : Nat) (K lo1 hi1 lo2 hi2 m1 m2 : Int) (w : World) {r : Bool} (hr : decide (m1 < m2) = r) (hm1 : max (K - lo1) (hi1 - K) = m1) (hm2 : max (K - lo2) (hi2 - K) = m2) (k0 : 0 ≤ K) (k1 : K ≤ 2000000)
    (l0 : 0 ≤ lo1) (l1 : lo1 ≤ 2000000) (h0 : 0 ≤ hi1) (h1 : hi1 ≤ 2000000) (l2 : 0 ≤ lo2) (l3 : lo2 ≤ 2000000) (h2 : 0 ≤ hi2) (h3 : hi2 ≤ 2000000)
    (hf : w.cell? ⟨fb, 0, none⟩ = some (.func (.func 84) #[] #[.pointer (some ⟨rb, 0, none⟩)])) (hc : w.cell? ⟨rb, 0, none⟩ = some (.int .i64 K)) :
    Calls Try.prog 86 #[.agg #[.int .i64 lo1, .int .i64 hi1], .agg #[.int .i64 lo2, .int .i64 hi2], .pointer (some ⟨fb, 0, none⟩)] w fun e w' => e = .returned (.bool r) ∧ Ext w w' := by
  have B1 := Lib.hid ((Box.alloc w #[.int .i64 lo1, .int .i64 hi1] 84).past (.cells #[.int .i64 lo2, .int .i64 hi2] 84))
  have B2 := Lib.hid (Box.alloc_at (w.alloc (.cells #[.int .i64 lo1, .int .i64 hi1] 84)) #[.int .i64 lo2, .int .i64 hi2] 84 (b := w.heap.size + 1) (by simp))
  have X2 := Lib.hid ((Ext.alloc w (.cells #[.int .i64 lo1, .int .i64 hi1] 84)).stepA (.cells #[.int .i64 lo2, .int .i64 hi2] 84))
  have M1 := Lib.hid hm1
  have M2 := Lib.hid hm2
  have HR := Lib.hid hr
  have BD := Lib.hid (And.intro (And.intro l0 l1) (And.intro (And.intro h0 h1) (And.intro (And.intro l2 l3) (And.intro h2 h3))))
  have HK0 := Lib.hid k0
  have HK1 := Lib.hid k1
  have HCC := Lib.hid (fun (w' : World) (e : Ext ((w.alloc (.cells #[.int .i64 lo1, .int .i64 hi1] 84)).alloc (.cells #[.int .i64 lo2, .int .i64 hi2] 84)) w') => e.some (X2.out.some hc))
  have HFF := Lib.hid (fun (w' : World) (e : Ext ((w.alloc (.cells #[.int .i64 lo1, .int .i64 hi1] 84)).alloc (.cells #[.int .i64 lo2, .int .i64 hi2] 84)) w') => e.some (X2.out.some hf))
  clear hf hc hm1 hm2 hr l0 l1 h0 h1 l2 l3 h2 h3 k0 k1
  go_enter Try.func86, Try.ntmps86
  go_upto_region 1 with fail
  generalize hw2 : ((w.alloc (.cells #[.int .i64 lo1, .int .i64 hi1] 84)).alloc (.cells #[.int .i64 lo2, .int .i64 hi2] 84)) = w2 at *
  obtain ⟨p0, p1⟩ := B1.out.two
  obtain ⟨p2, p3⟩ := B2.out.two
  have p4 := HFF.out _ (Ext.refl _)
  have E0 : Ext w2 w2 := Ext.refl _
  go_region_held3 (fun w' => w'.cell? ⟨w.heap.size, 0, none⟩ = some (.int .i64 lo1) ∧ w'.cell? ⟨w.heap.size, 1, none⟩ = some (.int .i64 hi1) ∧ w'.cell? ⟨w.heap.size + 1, 0, none⟩ = some (.int .i64 lo2) ∧ w'.cell? ⟨w.heap.size + 1, 1, none⟩ = some (.int .i64 hi2) ∧ w'.cell? ⟨fb, 0, none⟩ = some (.func (.func 84) #[] #[.pointer (some ⟨rb, 0, none⟩)])) (first | exact ⟨KA.1, KA.2, KB.1, KB.2, KC⟩ | go_keep) (first | (go_at_call_of 84 (Value.agg #[.int .i64 lo1, .int .i64 hi1]); refine (c_far rb K lo1 hi1 m1 _ M1.out HK0.out HK1.out BD.out.1.1 BD.out.1.2 BD.out.2.1.1 BD.out.2.1.2 (HCC.out _ (by (repeat (first | assumption | exact Ext.refl _ | (with_reducible refine Ext.stepS ?_ (by first | exact Nat.le_refl _ | (simp; done) | (simp; omega)) _) | (with_reducible refine Ext.stepN ?_ _) | (with_reducible refine Ext.stepD ?_) | (with_reducible refine Ext.stepA ?_ _)))))).mono ?_; rintro e v1 ⟨rfl, x1⟩; have EA : Ext w2 v1 := Ext.trans (by (repeat (first | assumption | exact Ext.refl _ | (with_reducible refine Ext.stepS ?_ (by first | exact Nat.le_refl _ | (simp; done) | (simp; omega)) _) | (with_reducible refine Ext.stepN ?_ _) | (with_reducible refine Ext.stepD ?_) | (with_reducible refine Ext.stepA ?_ _)))) x1; have KA := (B1.out.on EA).two; have KB := (B2.out.on EA).two; have KC := HFF.out _ EA; clear x1) | (go_at_call_of 84 (Value.agg #[.int .i64 lo2, .int .i64 hi2]); refine (c_far rb K lo2 hi2 m2 _ M2.out HK0.out HK1.out BD.out.2.2.1.1 BD.out.2.2.1.2 BD.out.2.2.2.1 BD.out.2.2.2.2 (HCC.out _ (by (repeat (first | assumption | exact Ext.refl _ | (with_reducible refine Ext.stepS ?_ (by first | exact Nat.le_refl _ | (simp; done) | (simp; omega)) _) | (with_reducible refine Ext.stepN ?_ _) | (with_reducible refine Ext.stepD ?_) | (with_reducible refine Ext.stepA ?_ _)))))).mono ?_; rintro e v2 ⟨rfl, x1⟩; have EA : Ext w2 v2 := Ext.trans (by (repeat (first | assumption | exact Ext.refl _ | (with_reducible refine Ext.stepS ?_ (by first | exact Nat.le_refl _ | (simp; done) | (simp; omega)) _) | (with_reducible refine Ext.stepN ?_ _) | (with_reducible refine Ext.stepD ?_) | (with_reducible refine Ext.stepA ?_ _)))) x1; have KA := (B1.out.on EA).two; have KB := (B2.out.on EA).two; have KC := HFF.out _ EA; clear x1))
  all_goals
    have XE := Lib.hid (X2.out.trans EA)
    go_wp2
    go_ret
    exact ⟨retB HR.out, XE.out⟩
set_option maxHeartbeats 2000000 in
theorem c_firstLeastR (rb fb : Nat) (K : Int) (a : Option Addr) (n cap : Nat) (f g : Nat → Int) (w : World) (h1 : 1 ≤ n) (hn : n ≤ 64) (h : ReadsP w a n f g) (k0 : 0 ≤ K) (k1 : K ≤ 2000000)
    (hf : ∀ i, i < n → 0 ≤ f i ∧ f i ≤ 2000000) (hg : ∀ i, i < n → 0 ≤ g i ∧ g i ≤ 2000000)
    (hcf : w.cell? ⟨fb, 0, none⟩ = some (.func (.func 84) #[] #[.pointer (some ⟨rb, 0, none⟩)])) (hc : w.cell? ⟨rb, 0, none⟩ = some (.int .i64 K)) :
    Calls Try.prog 85 #[.slice a n cap, .func (.func 86) #[] #[.pointer (some ⟨fb, 0, none⟩)]] w fun e w' => e = .returned (.int .i64 ((leastM (missF K f g) n : Nat) : Int)) ∧ Ext w w' := by
  rcases h with h0 | ⟨gb, go, rfl, hcs⟩
  · exfalso; omega
  have HC := Lib.hid hcs
  have HF := Lib.hid hf
  have HG := Lib.hid hg
  have HCF := Lib.hid hcf
  have HCC := Lib.hid hc
  have HK0 := Lib.hid k0
  have HK1 := Lib.hid k1
  have hn' : (n : Int) ≤ 64 := by omega
  obtain ⟨F, hFF⟩ : ∃ F, missF K f g = F := ⟨_, rfl⟩
  have HFF := Lib.hid (fun i => (congrFun hFF i).symm)
  rw [hFF]
  clear hcs hf hg hcf hc k0 k1 hFF
  go_enter Try.func85, Try.ntmps85
  go_wp2
  go_loopw [5, 10] (fun b i wr => ∃ k : Nat, k ≤ n ∧ i = .int .i64 k ∧ b = .int .i64 ((leastM F k : Nat) : Int) ∧ Ext w wr) (fun _ i _ => n - (intOf i).toNat)
  case atStart => exact ⟨0, Nat.zero_le _, rfl, rfl, Ext.refl _⟩
  case round =>
    obtain ⟨k, hk, rfl, rfl, hext⟩ := hrel
    by_cases hlt : k < n
    · obtain ⟨m, hm⟩ : ∃ m, leastM F k = m := ⟨_, rfl⟩
      have hml : m < n := by
        have := leastM_lt F k
        rw [hm] at this
        omega
      obtain ⟨c1, c2⟩ := HC.out k hlt
      obtain ⟨d1, d2⟩ := HC.out m hml
      have bf := HF.out k hlt
      have bg := HG.out k hlt
      have bf2 := HF.out m hml
      have bg2 := HG.out m hml
      have m1 := (HFF.out k).symm
      have m2 := (HFF.out m).symm
      unfold missF at m1 m2
      have hyes := leastM_yes (f := F) (k := k)
      have hno := leastM_no (f := F) (k := k)
      rw [hm] at hyes hno
      have c1 := hext.some c1
      have c2 := hext.some c2
      have d1 := hext.some d1
      have d2 := hext.some d2
      obtain ⟨x1, hx1⟩ : ∃ x, f k = x := ⟨_, rfl⟩
      obtain ⟨y1, hy1⟩ : ∃ y, g k = y := ⟨_, rfl⟩
      obtain ⟨x2, hx2⟩ : ∃ x, f m = x := ⟨_, rfl⟩
      obtain ⟨y2, hy2⟩ : ∃ y, g m = y := ⟨_, rfl⟩
      rw [hx1] at c1 bf m1
      rw [hy1] at c2 bg m1
      rw [hx2] at d1 bf2 m2
      rw [hy2] at d2 bg2 m2
      obtain ⟨u, hu⟩ : ∃ u, F k = u := ⟨_, rfl⟩
      obtain ⟨v, hv⟩ : ∃ v, F m = v := ⟨_, rfl⟩
      rw [hu] at m1 hyes hno
      rw [hv] at m2 hyes hno
      have M1 := Lib.hid m1
      have M2 := Lib.hid m2
      have BF := Lib.hid bf
      have BG := Lib.hid bg
      have BF2 := Lib.hid bf2
      have BG2 := Lib.hid bg2
      have XR := Lib.hid hext
      have BN := Lib.hid (Box.alloc wr #[.int .i64 x1, .int .i64 y1] 84)
      have XN := Lib.hid (Ext.alloc wr (.cells #[.int .i64 x1, .int .i64 y1] 84))
      have HS := Lib.hid (fun (w' : World) (e : Ext wr w') => And.intro (e.some d1) (e.some d2))
      have HNX := Lib.hid hn'
      have kn1 : (k : Int) < (n : Int) := by omega
      have kn2 : (m : Int) < (n : Int) := by omega
      have kn3 : (k : Int) ≤ 64 := by omega
      rw [hm]
      clear hext hu hv hx1 hy1 hx2 hy2 m1 m2 bf bg bf2 bg2 d1 d2 hm
      by_cases hlt2 : u < v
      · have HD := Lib.hid (show decide (u < v) = true from decide_eq_true hlt2)
        have HL := Lib.hid (hyes hlt2)
        clear hyes hno hlt2
        go_upto_region 5 with fail
        generalize hwn : (wr.alloc (.cells #[.int .i64 x1, .int .i64 y1] 84)) = wn at *
        clear c1 c2
        obtain ⟨p0, p1⟩ := BN.out.two
        obtain ⟨p2, p3⟩ := HS.out _ XN.out
        have E0 : Ext wn wn := Ext.refl _
        go_region_held3 (fun w' => w'.cell? ⟨wr.heap.size, 0, none⟩ = some (.int .i64 x1) ∧ w'.cell? ⟨wr.heap.size, 1, none⟩ = some (.int .i64 y1) ∧ w'.cell? ⟨gb, go + m * 2, none⟩ = some (.int .i64 x2) ∧ w'.cell? ⟨gb, go + m * 2 + 1, none⟩ = some (.int .i64 y2)) (first | exact ⟨KA.1, KA.2, KB.1, KB.2⟩ | go_keep) (first | (go_at_call 86; refine (c_near rb fb K x1 y1 x2 y2 u v _ HD.out M1.out M2.out HK0.out HK1.out BF.out.1 BF.out.2 BG.out.1 BG.out.2 BF2.out.1 BF2.out.2 BG2.out.1 BG2.out.2 ((XR.out.trans (XN.out.trans (by (repeat (first | assumption | exact Ext.refl _ | (with_reducible refine Ext.stepS ?_ (by first | exact Nat.le_refl _ | (simp; done) | (simp; omega)) _) | (with_reducible refine Ext.stepN ?_ _) | (with_reducible refine Ext.stepD ?_) | (with_reducible refine Ext.stepA ?_ _)))))).some HCF.out) ((XR.out.trans (XN.out.trans (by (repeat (first | assumption | exact Ext.refl _ | (with_reducible refine Ext.stepS ?_ (by first | exact Nat.le_refl _ | (simp; done) | (simp; omega)) _) | (with_reducible refine Ext.stepN ?_ _) | (with_reducible refine Ext.stepD ?_) | (with_reducible refine Ext.stepA ?_ _)))))).some HCC.out)).mono ?_; rintro e v1 ⟨rfl, x1'⟩; have EA : Ext wn v1 := Ext.trans (by (repeat (first | assumption | exact Ext.refl _ | (with_reducible refine Ext.stepS ?_ (by first | exact Nat.le_refl _ | (simp; done) | (simp; omega)) _) | (with_reducible refine Ext.stepN ?_ _) | (with_reducible refine Ext.stepD ?_) | (with_reducible refine Ext.stepA ?_ _)))) x1'; have KA := (BN.out.on EA).two; have KB := HS.out _ (XN.out.trans EA); clear x1') | fail)
        all_goals
          have XE := Lib.hid (XR.out.trans (XN.out.trans EA))
          go_wp2
          go_roundw
          case rel => exact ⟨k + 1, by omega, by go_num, by rw [HL.out], XE.out⟩
          case measure => simp [intOf]; omega
      · have HD := Lib.hid (show decide (u < v) = false from decide_eq_false hlt2)
        have HL := Lib.hid (hno hlt2)
        clear hyes hno hlt2
        go_upto_region 5 with fail
        generalize hwn : (wr.alloc (.cells #[.int .i64 x1, .int .i64 y1] 84)) = wn at *
        clear c1 c2
        obtain ⟨p0, p1⟩ := BN.out.two
        obtain ⟨p2, p3⟩ := HS.out _ XN.out
        have E0 : Ext wn wn := Ext.refl _
        go_region_held3 (fun w' => w'.cell? ⟨wr.heap.size, 0, none⟩ = some (.int .i64 x1) ∧ w'.cell? ⟨wr.heap.size, 1, none⟩ = some (.int .i64 y1) ∧ w'.cell? ⟨gb, go + m * 2, none⟩ = some (.int .i64 x2) ∧ w'.cell? ⟨gb, go + m * 2 + 1, none⟩ = some (.int .i64 y2)) (first | exact ⟨KA.1, KA.2, KB.1, KB.2⟩ | go_keep) (first | (go_at_call 86; refine (c_near rb fb K x1 y1 x2 y2 u v _ HD.out M1.out M2.out HK0.out HK1.out BF.out.1 BF.out.2 BG.out.1 BG.out.2 BF2.out.1 BF2.out.2 BG2.out.1 BG2.out.2 ((XR.out.trans (XN.out.trans (by (repeat (first | assumption | exact Ext.refl _ | (with_reducible refine Ext.stepS ?_ (by first | exact Nat.le_refl _ | (simp; done) | (simp; omega)) _) | (with_reducible refine Ext.stepN ?_ _) | (with_reducible refine Ext.stepD ?_) | (with_reducible refine Ext.stepA ?_ _)))))).some HCF.out) ((XR.out.trans (XN.out.trans (by (repeat (first | assumption | exact Ext.refl _ | (with_reducible refine Ext.stepS ?_ (by first | exact Nat.le_refl _ | (simp; done) | (simp; omega)) _) | (with_reducible refine Ext.stepN ?_ _) | (with_reducible refine Ext.stepD ?_) | (with_reducible refine Ext.stepA ?_ _)))))).some HCC.out)).mono ?_; rintro e v1 ⟨rfl, x1'⟩; have EA : Ext wn v1 := Ext.trans (by (repeat (first | assumption | exact Ext.refl _ | (with_reducible refine Ext.stepS ?_ (by first | exact Nat.le_refl _ | (simp; done) | (simp; omega)) _) | (with_reducible refine Ext.stepN ?_ _) | (with_reducible refine Ext.stepD ?_) | (with_reducible refine Ext.stepA ?_ _)))) x1'; have KA := (BN.out.on EA).two; have KB := HS.out _ (XN.out.trans EA); clear x1') | fail)
        all_goals
          have XE := Lib.hid (XR.out.trans (XN.out.trans EA))
          go_wp2
          go_roundw
          case rel => exact ⟨k + 1, by omega, by go_num, by rw [HL.out], XE.out⟩
          case measure => simp [intOf]; omega
    · obtain rfl : k = n := by omega
      have XE := Lib.hid hext
      clear hext
      go_wp2
      go_ret
      exact ⟨rfl, XE.out⟩
end Go.Proofs.Ytmgkbgdbahijnaa
