/- Summaries: valid ones, on both sides. -/
import Derived.Test.YtmgkbgdbahijnaaYkd
import Derived.Test.YtmgkbgdbahijnaaAsc
import Derived.Deep.QuietTactic
import Derived.BigQuiet
import Derived.Deep.RegionWith
namespace Go.Proofs.Ytmgkbgdbahijnaa
open Go.ChangeShapes Go.WideShapes Go.ChangeAt Go.RowKit Go.Proofs.Ytmgkbgdbahijnaa.Flo
set_option linter.unusedVariables false
/-- whether a summary can have so many values, gaps and slacks -/
def dimsY (N C : Int) (v g s : Nat) : Bool := inB 2 N 1000 && (inB 0 C 1000000 && (decide (v ≤ 64) && (decide (g = v) && decide (s = v))))
def gapAt (C g s : Int) : Bool := inB 1 g C && inB 0 s C
def gapsB (C : Int) (gs ss : List Int) : Bool := allTo gs.length fun i => gapAt C (getI gs i) (getI ss i)
def endsB (gs ss : List Int) : Bool := decide (gs.length = 0) || (decide (getI gs 0 = 1) && (decide (getI ss 0 = 0) && decide (getI ss (gs.length - 1) = 0)))
def goodGaps (C : Int) (gs ss : List Int) : Bool := gapsB C gs ss && (decide (sumTo (getI gs) gs.length = C) && endsB gs ss)
def summB (N C : Int) (vs : List Nat) (gs ss : List Int) : Bool := dimsY N C vs.length gs.length ss.length && ((finB vs && ascB vs) && goodGaps C gs ss)
structure DimsY (N C : Int) (v g s : Nat) : Prop where
  n1 : 2 ≤ N
  n2 : N ≤ 1000
  c1 : 0 ≤ C
  c2 : C ≤ 1000000
  vx : v ≤ 64
  ge : g = v
  se : s = v
theorem dimsY_ok {N C : Int} {v g s : Nat} (h : dimsY N C v g s = true) : DimsY N C v g s := by
  unfold dimsY at h
  simp only [Bool.and_eq_true, decide_eq_true_eq, inB_is] at h
  exact ⟨h.1.1, h.1.2, h.2.1.1, h.2.1.2, h.2.2.1, h.2.2.2.1, h.2.2.2.2⟩
theorem DimsY.b {N C : Int} {v g s : Nat} (h : DimsY N C v g s) : dimsY N C v g s = true := by
  unfold dimsY; rw [inB_is.2 ⟨h.n1, h.n2⟩, inB_is.2 ⟨h.c1, h.c2⟩, decide_eq_true h.vx, decide_eq_true h.ge, decide_eq_true h.se]; rfl
theorem dimsY_no {N C : Int} {v g s : Nat} (h : ¬ DimsY N C v g s) : dimsY N C v g s = false := by
  cases hb : dimsY N C v g s
  · rfl
  · exact absurd (dimsY_ok hb) h
theorem summB_dims {N C : Int} {vs : List Nat} {gs ss : List Int} (h : ¬ DimsY N C vs.length gs.length ss.length) : summB N C vs gs ss = false := by unfold summB; rw [dimsY_no h]; rfl
theorem summB_asc {N C : Int} {vs : List Nat} {gs ss : List Int} (h : (finB vs && ascB vs) = false) : summB N C vs gs ss = false := by unfold summB; rw [h]; simp
theorem summB_good {N C : Int} {vs : List Nat} {gs ss : List Int} (hd : DimsY N C vs.length gs.length ss.length) (h : (finB vs && ascB vs) = true) : summB N C vs gs ss = goodGaps C gs ss := by unfold summB; rw [hd.b, h]; rfl
theorem summB_gap {N C : Int} {vs : List Nat} {gs ss : List Int} (h : goodGaps C gs ss = false) : summB N C vs gs ss = false := by unfold summB; rw [h]; simp
theorem good_bad {C : Int} {gs ss : List Int} {i : Nat} (hi : i < gs.length) (h : gapAt C (getI gs i) (getI ss i) = false) : goodGaps C gs ss = false := by
  unfold goodGaps; rw [show gapsB C gs ss = false from allTo_no hi h]; rfl
theorem good_sum {C : Int} {gs ss : List Int} (h : sumTo (getI gs) gs.length ≠ C) : goodGaps C gs ss = false := by
  unfold goodGaps; rw [decide_eq_false h]; simp
theorem good_ends {C : Int} {gs ss : List Int} (h : gapsB C gs ss = true) (h' : sumTo (getI gs) gs.length = C) : goodGaps C gs ss = endsB gs ss := by
  unfold goodGaps; rw [h, decide_eq_true h']; rfl
theorem ends_0 {gs ss : List Int} (h : gs.length = 0) : endsB gs ss = true := by unfold endsB; rw [decide_eq_true h]; rfl
theorem ends_n {gs ss : List Int} {x y z : Int} (h : gs.length ≠ 0) (hx : getI gs 0 = x) (hy : getI ss 0 = y) (hz : getI ss (gs.length - 1) = z) : endsB gs ss = (decide (x = 1) && (decide (y = 0) && decide (z = 0))) := by
  unfold endsB; rw [decide_eq_false h, hx, hy, hz]; rfl
theorem gapAt_no1 {C g s : Int} (h : inB 1 g 1000000 = false) (hC : C ≤ 1000000) : gapAt C g s = false := by
  unfold gapAt
  have : inB 1 g C = false := by
    cases hb : inB 1 g C
    · rfl
    · have := inB_is.1 hb
      rw [inB_is.2 ⟨this.1, by omega⟩] at h; cases h
  rw [this]; rfl
theorem gapAt_no2 {C g s : Int} (h : inB 0 s C = false) : gapAt C g s = false := by unfold gapAt; rw [h]; simp
/-- a valid summary -/
structure SummOk (N C : Int) (vs : List Nat) (gs ss : List Int) : Prop where
  d : DimsY N C vs.length gs.length ss.length
  fin : finB vs = true
  asc : ascB vs = true
  gap : ∀ i, i < vs.length → 1 ≤ getI gs i ∧ getI gs i ≤ C
  slack : ∀ i, i < vs.length → 0 ≤ getI ss i ∧ getI ss i ≤ C
  sum : sumTo (getI gs) vs.length = C
theorem summ_ok {N C : Int} {vs : List Nat} {gs ss : List Int} (h : summB N C vs gs ss = true) : SummOk N C vs gs ss := by
  unfold summB goodGaps gapsB at h
  simp only [Bool.and_eq_true, decide_eq_true_eq] at h
  have d := dimsY_ok h.1
  have hg := h.2.2.1
  have q : ∀ i, i < vs.length → gapAt C (getI gs i) (getI ss i) = true := fun i hi => allTo_at hg (by rw [d.ge]; exact hi)
  refine ⟨d, h.2.1.1, h.2.1.2, fun i hi => ?_, fun i hi => ?_, by rw [← d.ge]; exact h.2.2.2.1⟩
  · have := q i hi
    unfold gapAt at this
    simp only [Bool.and_eq_true, inB_is] at this
    exact this.1
  · have := q i hi
    unfold gapAt at this
    simp only [Bool.and_eq_true, inB_is] at this
    exact this.2
theorem c_l00In_w (k lo hi : Int) (w : World) {b : Bool} (h : inB lo k hi = b) : Calls Try.prog 73 #[.int .i64 k, .int .i64 lo, .int .i64 hi] w fun e w' => e = .returned (.bool b) ∧ w = w' := by
  subst h; exact (c_l00In k lo hi w).mono (by rintro e w' ⟨rfl, rfl⟩; exact ⟨rfl, rfl⟩)
theorem c_l00In_q (k lo hi : Int) (w : World) {b : Bool} (h : inB lo k hi = b) : Calls Try.prog 73 #[.int .i64 k, .int .i64 lo, .int .i64 hi] w fun e w' => e = .returned (.bool b) ∧ w' = w := by
  subst h; exact (c_l00In k lo hi w).mono (by rintro e w' ⟨rfl, rfl⟩; exact ⟨rfl, rfl⟩)
set_option maxRecDepth 100000 in
set_option maxHeartbeats 4000000 in
theorem c_impl_areGaps (C : Int) (a2 : Option Addr) (n cap2 : Nat) (gs : List Int) (a3 : Option Addr) (cap3 : Nat) (ss : List Int) (w : World) {r : Bool} (hr : goodGaps C gs ss = r) (hn : n ≤ 64) (hC : C ≤ 1000000) (h : Reads w a2 n (ints gs)) (h' : Reads w a3 n (ints ss)) :
    Calls Try.prog 61 #[.slice a2 n cap2, .slice a3 n cap3, .int .i64 C] w fun e w' => e = .returned (.bool r) ∧ w' = w := by
  have H := Lib.hid h
  obtain ⟨hz, hr1⟩ := h.int
  obtain ⟨hz', hr2⟩ := h'.int
  have HZ := Lib.hid hz
  have HZ' := Lib.hid hz'
  have H1 := Lib.hid hr1
  have H2 := Lib.hid hr2
  have HR := Lib.hid hr
  have hn' : (n : Int) ≤ 64 := by omega
  clear h h' hz hz' hr1 hr2 hr
  go_enter Try.func61, Try.ntmps61
  go_wp2
  go_loop [14] (fun i => ∃ k : Nat, k ≤ n ∧ i = .int .i64 k ∧ ∀ j, j < k → gapAt C (getI gs j) (getI ss j) = true) (fun i => n - (intOf i).toNat)
  case atStart => exact ⟨0, Nat.zero_le _, rfl, fun j hj => absurd hj (Nat.not_lt_zero _)⟩
  case round =>
    obtain ⟨k, hk, rfl, hall⟩ := hrel
    have HA := Lib.hid hall
    clear hall
    by_cases hlt : k < n
    · rcases H1.out with h0 | ⟨gb, go, rfl, hc1⟩
      · omega
      rcases H2.out with h0 | ⟨sb, so, rfl, hc2⟩
      · omega
      have c1 : w.cell? ⟨gb, go + k, none⟩ = some (.int .i64 (getI gs k)) := hc1 k hlt
      have c2 : w.cell? ⟨sb, so + k, none⟩ = some (.int .i64 (getI ss k)) := hc2 k hlt
      obtain ⟨x, hx⟩ : ∃ x, getI gs k = x := ⟨_, rfl⟩
      obtain ⟨y, hy⟩ : ∃ y, getI ss k = y := ⟨_, rfl⟩
      have HX := Lib.hid hx
      have HY := Lib.hid hy
      have hkn : (k : Int) < (n : Int) := by omega
      rw [hx] at c1
      rw [hy] at c2
      clear hc1 hc2 hx hy
      by_cases q1 : x < 1
      · have HT := Lib.hid (show r = false by rw [← HR.out]; refine good_bad (i := k) (by rw [HZ.out]; exact hlt) ?_; rw [HX.out, HY.out]; unfold gapAt inB; simp; omega)
        go_wp2
        go_ret
        exact ⟨retB (by rw [HT.out]), rfl⟩
      by_cases q2 : C < x
      · have HT := Lib.hid (show r = false by rw [← HR.out]; refine good_bad (i := k) (by rw [HZ.out]; exact hlt) ?_; rw [HX.out, HY.out]; unfold gapAt inB; simp; omega)
        have q1' : 1 ≤ x := by omega
        go_wp2
        go_ret
        exact ⟨retB (by rw [HT.out]), rfl⟩
      by_cases q3 : y < 0
      · have HT := Lib.hid (show r = false by rw [← HR.out]; refine good_bad (i := k) (by rw [HZ.out]; exact hlt) ?_; rw [HX.out, HY.out]; unfold gapAt inB; simp; omega)
        have q1' : 1 ≤ x := by omega
        have q2' : x ≤ C := by omega
        go_wp2
        go_ret
        exact ⟨retB (by rw [HT.out]), rfl⟩
      by_cases q4 : C < y
      · have HT := Lib.hid (show r = false by rw [← HR.out]; refine good_bad (i := k) (by rw [HZ.out]; exact hlt) ?_; rw [HX.out, HY.out]; unfold gapAt inB; simp; omega)
        have q1' : 1 ≤ x := by omega
        have q2' : x ≤ C := by omega
        have q3' : 0 ≤ y := by omega
        go_wp2
        go_ret
        exact ⟨retB (by rw [HT.out]), rfl⟩
      have q1' : 1 ≤ x := by omega
      have q2' : x ≤ C := by omega
      have q3' : 0 ≤ y := by omega
      have q4' : y ≤ C := by omega
      have HN := Lib.hid (show ∀ j, j < k + 1 → gapAt C (getI gs j) (getI ss j) = true from fun j hj => by
        by_cases e : j = k
        · subst e; rw [HX.out, HY.out]; unfold gapAt; rw [inB_is.2 ⟨q1', q2'⟩, inB_is.2 ⟨q3', q4'⟩]; rfl
        · exact HA.out j (by omega))
      clear q1 q2 q3 q4
      go_wp2
      go_round
      case rel => exact ⟨k + 1, by omega, by go_num, HN.out⟩
      case measure => simp [intOf]; omega
    · obtain rfl : k = n := by omega
      have HG := Lib.hid (show gapsB C gs ss = true from allTo_yes (by rw [HZ.out]; exact HA.out))
      have HSB := Lib.hid (show ∀ i, i < k → -1000000000000 ≤ getI gs i ∧ getI gs i ≤ 1000000000000 from fun i hi => by
        have := HA.out i hi
        unfold gapAt at this
        simp only [Bool.and_eq_true, inB_is] at this
        omega)
      have HL := Lib.hid (show k ≤ 1048576 by omega)
      obtain ⟨s, hs⟩ : ∃ s, sumTo (getI gs) k = s := ⟨_, rfl⟩
      have HS := Lib.hid hs
      clear hs
      by_cases hsC : s = C
      · subst hsC
        have HE := Lib.hid (show r = endsB gs ss by rw [← HR.out]; exact good_ends HG.out (by rw [HZ.out]; exact HS.out))
        by_cases hk0 : k = 0
        · subst hk0
          have HT := Lib.hid (show r = true by rw [HE.out]; exact ends_0 HZ.out)
          go_wp2_with fail
          refine (c_impl_sumOfT _ _ _ gs _ HS.out HL.out HSB.out H.out).mono ?_; rintro e w' ⟨rfl, rfl⟩
          go_wp2
          go_ret
          exact ⟨retB (by rw [HT.out]), rfl⟩
        · rcases H1.out with h0 | ⟨gb, go, rfl, hc1⟩
          · omega
          rcases H2.out with h0 | ⟨sb, so, rfl, hc2⟩
          · omega
          obtain ⟨m, hm⟩ : ∃ m, k = m + 1 := ⟨k - 1, by omega⟩
          have c1 : w.cell? ⟨gb, go + 0, none⟩ = some (.int .i64 (getI gs 0)) := hc1 0 (by omega)
          have c2 : w.cell? ⟨sb, so + 0, none⟩ = some (.int .i64 (getI ss 0)) := hc2 0 (by omega)
          have c3 : w.cell? ⟨sb, so + m, none⟩ = some (.int .i64 (getI ss m)) := hc2 m (by omega)
          simp only [Nat.add_zero] at c1 c2
          obtain ⟨x, hx⟩ : ∃ x, getI gs 0 = x := ⟨_, rfl⟩
          obtain ⟨y, hy⟩ : ∃ y, getI ss 0 = y := ⟨_, rfl⟩
          obtain ⟨z, hz⟩ : ∃ z, getI ss m = z := ⟨_, rfl⟩
          have HEN := Lib.hid (show r = (decide (x = 1) && (decide (y = 0) && decide (z = 0))) by rw [HE.out]; exact ends_n (by rw [HZ.out]; omega) hx hy (by rw [HZ.out, show k - 1 = m by omega]; exact hz))
          rw [hx] at c1
          rw [hy] at c2
          rw [hz] at c3
          have k0 : ((k : Int) == 0) = false := by simp; omega
          have k1 : ¬ (k : Int) = 0 := by omega
          have k2 : (0 : Int) < (k : Int) := by omega
          have k2' : 0 < k := by omega
          have k3 : (k : Int) - 1 = (m : Int) := by omega
          have k4 : (m : Int) < (k : Int) := by omega
          have k5 : (0 : Int) ≤ (m : Int) := by omega
          have HM := Lib.hid hm
          clear hc1 hc2 hx hy hz hm hk0
          by_cases x1 : x = 1
          · subst x1
            by_cases y1 : y = 0
            · subst y1
              by_cases z1 : z = 0
              · subst z1
                go_wp2_with fail
                refine (c_impl_sumOfT _ _ _ gs _ HS.out HL.out HSB.out H.out).mono ?_; rintro e w' ⟨rfl, rfl⟩
                go_wp2
                go_ret
                exact ⟨retB (by first | (rw [HEN.out]; done) | (rw [HEN.out]; rfl) | (rw [HEN.out]; first | (simp; done) | (simp; omega))), rfl⟩
              · have z2 : (z == 0) = false := by simpa using z1
                go_wp2_with fail
                refine (c_impl_sumOfT _ _ _ gs _ HS.out HL.out HSB.out H.out).mono ?_; rintro e w' ⟨rfl, rfl⟩
                go_wp2
                go_ret
                exact ⟨retB (by rw [HEN.out]; simp [z1]), rfl⟩
            · have y2 : (y == 0) = false := by simpa using y1
              go_wp2_with fail
              refine (c_impl_sumOfT _ _ _ gs _ HS.out HL.out HSB.out H.out).mono ?_; rintro e w' ⟨rfl, rfl⟩
              go_wp2
              go_ret
              exact ⟨retB (by rw [HEN.out]; simp [y1]), rfl⟩
          · have x2 : (x == 1) = false := by simpa using x1
            go_wp2_with fail
            refine (c_impl_sumOfT _ _ _ gs _ HS.out HL.out HSB.out H.out).mono ?_; rintro e w' ⟨rfl, rfl⟩
            go_wp2
            go_ret
            exact ⟨retB (by rw [HEN.out]; simp [x1]), rfl⟩
      · have HT := Lib.hid (show r = false by rw [← HR.out]; exact good_sum (by rw [HZ.out, HS.out]; exact hsC))
        have s2 : (s == C) = false := by simpa using hsC
        go_wp2_with fail
        refine (c_impl_sumOfT _ _ _ gs _ HS.out HL.out HSB.out H.out).mono ?_; rintro e w' ⟨rfl, rfl⟩
        go_wp2
        go_ret
        exact ⟨retB (by rw [HT.out]), rfl⟩
theorem c_impl_areGaps2 (C : Int) (a2 : Option Addr) (n n' cap2 : Nat) (gs : List Int) (a3 : Option Addr) (cap3 : Nat) (ss : List Int) (w : World) {r : Bool} (e : n' = n) (hr : goodGaps C gs ss = r) (hn : n ≤ 64) (hC : C ≤ 1000000) (h : Reads w a2 n (ints gs)) (h' : Reads w a3 n' (ints ss)) :
    Calls Try.prog 61 #[.slice a2 n cap2, .slice a3 n' cap3, .int .i64 C] w fun e w' => e = .returned (.bool r) ∧ w' = w := by
  subst e; exact c_impl_areGaps C a2 n' cap2 gs a3 cap3 ss w hr hn hC h h'
set_option maxHeartbeats 4000000 in
theorem c_impl_ValidSummary (N C : Int) (a1 : Option Addr) (cap1 : Nat) (vs : List Nat) (a2 : Option Addr) (cap2 : Nat) (gs : List Int) (a3 : Option Addr) (cap3 : Nat) (ss : List Int) (w : World) {r : Bool} (hr : summB N C vs gs ss = r) (hl : vs.length + gs.length + ss.length ≤ 1048576) (h : Reads3 w a1 vs.length (flos vs) a2 gs.length (ints gs) a3 ss.length (ints ss)) (hb : ∀ z ∈ vs, z < 4294967296) :
    Calls Try.prog 22 #[.agg #[.int .i64 N, .int .i64 C, .slice a1 vs.length cap1, .slice a2 gs.length cap2, .slice a3 ss.length cap3]] w fun e w' => e = .returned (.bool r) ∧ Ext w w' := by
  have H := Lib.hid h
  have HB := Lib.hid hb
  have hl1 : (vs.length : Int) ≤ 1048576 := by omega
  have hl2 : (gs.length : Int) ≤ 1048576 := by omega
  have hl3 : (ss.length : Int) ≤ 1048576 := by omega
  have HM1 := Lib.hid (show vs.length ≤ maxLen by unfold maxLen; omega)
  have BX := Lib.hid (Box.alloc w #[.int .i64 N, .int .i64 C, .slice a1 vs.length cap1, .slice a2 gs.length cap2, .slice a3 ss.length cap3] 31)
  have X0 := Lib.hid (Ext.alloc w (.cells #[.int .i64 N, .int .i64 C, .slice a1 vs.length cap1, .slice a2 gs.length cap2, .slice a3 ss.length cap3] 31))
  clear h hb hl
  by_cases h1 : N < 2
  · have HR := Lib.hid (show r = false by rw [← hr]; exact summB_dims (fun d => by have := d.n1; omega))
    clear hr
    go_enter Try.func22, Try.ntmps22
    go_wp2
    go_ret
    exact ⟨retB (by rw [HR.out]), by (repeat (first | assumption | exact Ext.refl _ | (with_reducible refine Ext.stepS ?_ (by first | exact Nat.le_refl _ | (simp; done) | (simp; omega)) _) | (with_reducible refine Ext.stepN ?_ _) | (with_reducible refine Ext.stepD ?_) | (with_reducible refine Ext.stepA ?_ _)))⟩
  by_cases h2 : 1000 < N
  · have HR := Lib.hid (show r = false by rw [← hr]; exact summB_dims (fun d => by have := d.n2; omega))
    have h1' : 2 ≤ N := by omega
    clear hr
    go_enter Try.func22, Try.ntmps22
    go_wp2
    go_ret
    exact ⟨retB (by rw [HR.out]), by (repeat (first | assumption | exact Ext.refl _ | (with_reducible refine Ext.stepS ?_ (by first | exact Nat.le_refl _ | (simp; done) | (simp; omega)) _) | (with_reducible refine Ext.stepN ?_ _) | (with_reducible refine Ext.stepD ?_) | (with_reducible refine Ext.stepA ?_ _)))⟩
  by_cases h3 : C < 0
  · have HR := Lib.hid (show r = false by rw [← hr]; exact summB_dims (fun d => by have := d.c1; omega))
    have h1' : 2 ≤ N := by omega
    have h2' : N ≤ 1000 := by omega
    clear hr
    go_enter Try.func22, Try.ntmps22
    go_wp2
    go_ret
    exact ⟨retB (by rw [HR.out]), by (repeat (first | assumption | exact Ext.refl _ | (with_reducible refine Ext.stepS ?_ (by first | exact Nat.le_refl _ | (simp; done) | (simp; omega)) _) | (with_reducible refine Ext.stepN ?_ _) | (with_reducible refine Ext.stepD ?_) | (with_reducible refine Ext.stepA ?_ _)))⟩
  by_cases h4 : 1000000 < C
  · have HR := Lib.hid (show r = false by rw [← hr]; exact summB_dims (fun d => by have := d.c2; omega))
    have h1' : 2 ≤ N := by omega
    have h2' : N ≤ 1000 := by omega
    have h3' : 0 ≤ C := by omega
    clear hr
    go_enter Try.func22, Try.ntmps22
    go_wp2
    go_ret
    exact ⟨retB (by rw [HR.out]), by (repeat (first | assumption | exact Ext.refl _ | (with_reducible refine Ext.stepS ?_ (by first | exact Nat.le_refl _ | (simp; done) | (simp; omega)) _) | (with_reducible refine Ext.stepN ?_ _) | (with_reducible refine Ext.stepD ?_) | (with_reducible refine Ext.stepA ?_ _)))⟩
  by_cases h5 : 64 < vs.length
  · have HR := Lib.hid (show r = false by rw [← hr]; exact summB_dims (fun d => by have := d.vx; omega))
    have h1' : 2 ≤ N := by omega
    have h2' : N ≤ 1000 := by omega
    have h3' : 0 ≤ C := by omega
    have h4' : C ≤ 1000000 := by omega
    have h5' : (64 : Int) < (vs.length : Int) := by omega
    clear hr
    go_enter Try.func22, Try.ntmps22
    go_wp2
    go_ret
    exact ⟨retB (by rw [HR.out]), by (repeat (first | assumption | exact Ext.refl _ | (with_reducible refine Ext.stepS ?_ (by first | exact Nat.le_refl _ | (simp; done) | (simp; omega)) _) | (with_reducible refine Ext.stepN ?_ _) | (with_reducible refine Ext.stepD ?_) | (with_reducible refine Ext.stepA ?_ _)))⟩
  by_cases h6 : ¬ gs.length = vs.length
  · have HR := Lib.hid (show r = false by rw [← hr]; exact summB_dims (fun d => by have := d.ge; omega))
    have h1' : 2 ≤ N := by omega
    have h2' : N ≤ 1000 := by omega
    have h3' : 0 ≤ C := by omega
    have h4' : C ≤ 1000000 := by omega
    have h5' : (vs.length : Int) ≤ 64 := by omega
    have h6a : ((gs.length : Int) == (vs.length : Int)) = false := by simp; omega
    have h6b : ((gs.length : Int) != (vs.length : Int)) = true := by simp; omega
    clear hr h6
    go_enter Try.func22, Try.ntmps22
    go_wp2
    go_ret
    exact ⟨retB (by rw [HR.out]), by (repeat (first | assumption | exact Ext.refl _ | (with_reducible refine Ext.stepS ?_ (by first | exact Nat.le_refl _ | (simp; done) | (simp; omega)) _) | (with_reducible refine Ext.stepN ?_ _) | (with_reducible refine Ext.stepD ?_) | (with_reducible refine Ext.stepA ?_ _)))⟩
  have h6 : gs.length = vs.length := Classical.byContradiction h6
  by_cases h7 : ¬ ss.length = vs.length
  · have HR := Lib.hid (show r = false by rw [← hr]; exact summB_dims (fun d => by have := d.se; omega))
    have h1' : 2 ≤ N := by omega
    have h2' : N ≤ 1000 := by omega
    have h3' : 0 ≤ C := by omega
    have h4' : C ≤ 1000000 := by omega
    have h5' : (vs.length : Int) ≤ 64 := by omega
    have h6a : ((gs.length : Int) == (vs.length : Int)) = true := by simp; omega
    have h6b : ((gs.length : Int) != (vs.length : Int)) = false := by simp; omega
    have h7a : ((ss.length : Int) == (vs.length : Int)) = false := by simp; omega
    have h7b : ((ss.length : Int) != (vs.length : Int)) = true := by simp; omega
    clear hr h7 h6
    go_enter Try.func22, Try.ntmps22
    go_wp2
    go_ret
    exact ⟨retB (by rw [HR.out]), by (repeat (first | assumption | exact Ext.refl _ | (with_reducible refine Ext.stepS ?_ (by first | exact Nat.le_refl _ | (simp; done) | (simp; omega)) _) | (with_reducible refine Ext.stepN ?_ _) | (with_reducible refine Ext.stepD ?_) | (with_reducible refine Ext.stepA ?_ _)))⟩
  have h7 : ss.length = vs.length := Classical.byContradiction h7
  have h1' : 2 ≤ N := by omega
  have h2' : N ≤ 1000 := by omega
  have h3' : 0 ≤ C := by omega
  have h4' : C ≤ 1000000 := by omega
  have h5' : (vs.length : Int) ≤ 64 := by omega
  have h6a : ((gs.length : Int) == (vs.length : Int)) = true := by simp; omega
  have h6b : ((gs.length : Int) != (vs.length : Int)) = false := by simp; omega
  have h7a : ((ss.length : Int) == (vs.length : Int)) = true := by simp; omega
  have h7b : ((ss.length : Int) != (vs.length : Int)) = false := by simp; omega
  have HD := Lib.hid (show DimsY N C vs.length gs.length ss.length from ⟨h1', h2', h3', h4', by omega, h6, h7⟩)
  have HN := Lib.hid (show gs.length ≤ 64 by omega)
  have HG := Lib.hid (show Reads w a2 gs.length (ints gs) from H.out.r2)
  have HS := Lib.hid (show Reads w a3 gs.length (ints ss) by have := H.out.r3; rwa [show ss.length = gs.length by omega] at this)
  have HLS := Lib.hid (show ss.length = gs.length by omega)
  have HC6 := Lib.hid h4'
  obtain ⟨b0, b1, b2, b3, b4⟩ := BX.out.five
  clear h1 h2 h3 h4 h5 h6 h7
  cases hfa : finB vs && ascB vs
  · have HT := Lib.hid (show r = false by rw [← hr]; exact summB_asc hfa)
    have HFA := Lib.hid hfa
    clear hfa hr
    go_enter Try.func22, Try.ntmps22
    go_wp2_with (go_at_call 60; refine (c_impl_areAscending _ _ _ vs _ HFA.out HM1.out HB.out (H.out.r1.on X0.out)).mono ?_; rintro e w' ⟨rfl, q, rfl⟩)
    go_ret
    exact ⟨retB (by rw [HT.out]), X0.out.stepN _⟩
  · have HT := Lib.hid (show goodGaps C gs ss = r by rw [← hr]; exact (summB_good HD.out hfa).symm)
    have HFA := Lib.hid hfa
    clear hfa hr
    go_enter Try.func22, Try.ntmps22
    go_wp2_with fail
    clear b0 b1 b2 b3 b4
    refine (c_impl_areAscending _ _ _ vs _ HFA.out HM1.out HB.out (H.out.r1.on X0.out)).mono ?_; rintro e w1 ⟨rfl, q, rfl⟩
    obtain ⟨b0, b1, b2, b3, b4⟩ := (BX.out.on (Ext.drewN _ q)).five
    go_wp2_with fail
    clear b0 b1 b2 b3 b4
    refine (c_impl_areGaps2 C _ gs.length ss.length _ gs _ _ ss _ HLS.out HT.out HN.out HC6.out (H.out.r2.on (X0.out.stepN _)) (H.out.r3.on (X0.out.stepN _))).mono ?_; rintro e w2 ⟨rfl, rfl⟩
    go_wp2
    go_ret
    exact ⟨rfl, by first | exact X0.out.stepN _ | (have q := X0.out; rw [HLS.out] at q; exact q.stepN _)⟩
set_option maxRecDepth 100000 in
set_option maxHeartbeats 8000000 in
theorem c_spec_l05Is (qb : Nat) (N C : Int) (a1 : Option Addr) (cap1 : Nat) (vs : List Nat) (a2 : Option Addr) (cap2 : Nat) (gs : List Int) (a3 : Option Addr) (cap3 : Nat) (ss : List Int) (w : World) {r : Bool} (hr : summB N C vs gs ss = r) (hl : vs.length + gs.length + ss.length ≤ 1048576) (h : Reads3 w a1 vs.length (flos vs) a2 gs.length (ints gs) a3 ss.length (ints ss)) (hq : Box w qb 31 #[.int .i64 N, .int .i64 C, .slice a1 vs.length cap1, .slice a2 gs.length cap2, .slice a3 ss.length cap3]) :
    Calls Try.prog 58 #[.pointer (some ⟨qb, 0, none⟩)] w fun e w' => e = .returned (.bool r) ∧ ∃ q, w' = w.drewN q := by
  have H := Lib.hid h
  have BX := Lib.hid hq
  have hl1 : (vs.length : Int) ≤ 1048576 := by omega
  have hl2 : (gs.length : Int) ≤ 1048576 := by omega
  have hl3 : (ss.length : Int) ≤ 1048576 := by omega
  have HM1 := Lib.hid (show vs.length ≤ maxLen by unfold maxLen; omega)
  obtain ⟨b0, b1, b2, b3, b4⟩ := BX.out.five
  clear h hq hl
  by_cases h1 : inB 2 N 1000 = false
  · have HR := Lib.hid (show r = false by rw [← hr]; exact summB_dims (fun d => by rw [inB_is.2 ⟨d.n1, d.n2⟩] at h1; cases h1))
    have HI1 := Lib.hid h1
    clear hr h1
    go_enter Try.func58, Try.ntmps58
    go_wp2_with (first | (go_at_call_of 73 (Value.int .i64 N); refine (c_l00In_w N 2 1000 _ HI1.out).mono ?_; rintro e w' ⟨rfl, rfl⟩))
    go_ret
    exact ⟨retB (by rw [HR.out]), 0, rfl⟩
  have h1 : inB 2 N 1000 = true := by cases hi : inB 2 N 1000; exact absurd hi h1; rfl
  have HI1 := Lib.hid h1
  by_cases h2 : inB 0 C 1000000 = false
  · have HR := Lib.hid (show r = false by rw [← hr]; exact summB_dims (fun d => by rw [inB_is.2 ⟨d.c1, d.c2⟩] at h2; cases h2))
    have HI2 := Lib.hid h2
    clear hr h1 h2
    go_enter Try.func58, Try.ntmps58
    go_wp2_with (first | (go_at_call_of 73 (Value.int .i64 N); refine (c_l00In_w N 2 1000 _ HI1.out).mono ?_; rintro e w' ⟨rfl, rfl⟩) | (go_at_call_of 73 (Value.int .i64 C); refine (c_l00In_w C 0 1000000 _ HI2.out).mono ?_; rintro e w' ⟨rfl, rfl⟩))
    go_ret
    exact ⟨retB (by rw [HR.out]), 0, rfl⟩
  have h2 : inB 0 C 1000000 = true := by cases hi : inB 0 C 1000000; exact absurd hi h2; rfl
  have HI2 := Lib.hid h2
  by_cases h5 : 64 < vs.length
  · have HR := Lib.hid (show r = false by rw [← hr]; exact summB_dims (fun d => by have := d.vx; omega))
    have h5' : (64 : Int) < (vs.length : Int) := by omega
    clear hr h1 h2
    go_enter Try.func58, Try.ntmps58
    go_wp2_with (first | (go_at_call_of 73 (Value.int .i64 N); refine (c_l00In_w N 2 1000 _ HI1.out).mono ?_; rintro e w' ⟨rfl, rfl⟩) | (go_at_call_of 73 (Value.int .i64 C); refine (c_l00In_w C 0 1000000 _ HI2.out).mono ?_; rintro e w' ⟨rfl, rfl⟩))
    go_ret
    exact ⟨retB (by rw [HR.out]), 0, rfl⟩
  by_cases h6 : ¬ gs.length = vs.length
  · have HR := Lib.hid (show r = false by rw [← hr]; exact summB_dims (fun d => by exact h6 d.ge))
    have h5' : (vs.length : Int) ≤ 64 := by omega
    have h6a : ((gs.length : Int) == (vs.length : Int)) = false := by simp; omega
    have h6b : ((gs.length : Int) != (vs.length : Int)) = true := by simp; omega
    clear hr h1 h2 h6
    go_enter Try.func58, Try.ntmps58
    go_wp2_with (first | (go_at_call_of 73 (Value.int .i64 N); refine (c_l00In_w N 2 1000 _ HI1.out).mono ?_; rintro e w' ⟨rfl, rfl⟩) | (go_at_call_of 73 (Value.int .i64 C); refine (c_l00In_w C 0 1000000 _ HI2.out).mono ?_; rintro e w' ⟨rfl, rfl⟩))
    go_ret
    exact ⟨retB (by rw [HR.out]), 0, rfl⟩
  have h6 : gs.length = vs.length := Classical.byContradiction h6
  by_cases h7 : ¬ ss.length = vs.length
  · have HR := Lib.hid (show r = false by rw [← hr]; exact summB_dims (fun d => by exact h7 d.se))
    have h5' : (vs.length : Int) ≤ 64 := by omega
    have h6a : ((gs.length : Int) == (vs.length : Int)) = true := by simp; omega
    have h6b : ((gs.length : Int) != (vs.length : Int)) = false := by simp; omega
    have h7a : ((ss.length : Int) == (vs.length : Int)) = false := by simp; omega
    have h7b : ((ss.length : Int) != (vs.length : Int)) = true := by simp; omega
    clear hr h1 h2 h6 h7
    go_enter Try.func58, Try.ntmps58
    go_wp2_with (first | (go_at_call_of 73 (Value.int .i64 N); refine (c_l00In_w N 2 1000 _ HI1.out).mono ?_; rintro e w' ⟨rfl, rfl⟩) | (go_at_call_of 73 (Value.int .i64 C); refine (c_l00In_w C 0 1000000 _ HI2.out).mono ?_; rintro e w' ⟨rfl, rfl⟩))
    go_ret
    exact ⟨retB (by rw [HR.out]), 0, rfl⟩
  have h7 : ss.length = vs.length := Classical.byContradiction h7
  have h5' : (vs.length : Int) ≤ 64 := by omega
  have h6a : ((gs.length : Int) == (vs.length : Int)) = true := by simp; omega
  have h6b : ((gs.length : Int) != (vs.length : Int)) = false := by simp; omega
  have h7a : ((ss.length : Int) == (vs.length : Int)) = true := by simp; omega
  have h7b : ((ss.length : Int) != (vs.length : Int)) = false := by simp; omega
  have n1 := inB_is.1 h1
  have n2 := inB_is.1 h2
  have HD := Lib.hid (show DimsY N C vs.length gs.length ss.length from ⟨n1.1, n1.2, n2.1, n2.2, by omega, h6, h7⟩)
  have HC6 := Lib.hid n2.2
  have HG := Lib.hid h6
  have HSL := Lib.hid h7
  have HC1 := Lib.hid H.out.r1.flo.2
  have HC2 := Lib.hid H.out.r2.int.2
  have HC3 := Lib.hid H.out.r3.int.2
  have HR := Lib.hid hr
  clear h1 h2 h5 h6 h7 n1 n2 hr
  cases hf : finB vs
  · have HT := Lib.hid (show r = false by rw [← HR.out]; exact summB_asc (by rw [hf]; rfl))
    have HFF := Lib.hid hf
    clear hf
    go_enter Try.func58, Try.ntmps58
    go_wp2_with (first | (go_at_call_of 73 (Value.int .i64 N); refine (c_l00In_w N 2 1000 _ HI1.out).mono ?_; rintro e w' ⟨rfl, rfl⟩) | (go_at_call_of 73 (Value.int .i64 C); refine (c_l00In_w C 0 1000000 _ HI2.out).mono ?_; rintro e w' ⟨rfl, rfl⟩) | (go_at_call 101; refine (c_spec_l02Finite _ _ _ vs _ HFF.out HM1.out H.out.r1).mono ?_; rintro e w' ⟨rfl, q, rfl⟩))
    go_ret
    exact ⟨retB (by rw [HT.out]), _, rfl⟩
  have HFF := Lib.hid hf
  clear hf
  go_enter Try.func58, Try.ntmps58
  go_wp2_with fail
  refine (c_l00In_w N 2 1000 _ HI1.out).mono ?_; rintro e w' ⟨rfl, rfl⟩
  go_wp2_with fail
  refine (c_l00In_w C 0 1000000 _ HI2.out).mono ?_; rintro e w' ⟨rfl, rfl⟩
  go_wp2_with fail
  clear b0 b1 b2 b3 b4
  refine (c_spec_l02Finite _ _ _ vs _ HFF.out HM1.out H.out.r1).mono ?_; rintro e w' ⟨rfl, q0, rfl⟩
  obtain ⟨b0, b1, b2, b3, b4⟩ := (BX.out.on (Ext.drewN w q0)).five
  go_wp2
  clear b0 b1 b2 b3 b4
  go_loopw [4, 60] (fun s i wr => ∃ k q : Nat, k ≤ vs.length ∧ i = .int .i64 k ∧ s = .int .i64 (sumTo (getI gs) k) ∧ wr = w.drewN q ∧ ∀ j, j < k → upAt vs j = true ∧ inB 1 (getI gs j) 1000000 = true ∧ inB 0 (getI ss j) C = true) (fun _ i _ => vs.length - (intOf i).toNat)
  case atStart => exact ⟨0, q0, Nat.zero_le _, rfl, rfl, rfl, fun j hj => absurd hj (Nat.not_lt_zero _)⟩
  case round =>
    obtain ⟨k, q, hk, rfl, rfl, hw, hall⟩ := hrel
    have HA := Lib.hid hall
    have HW := Lib.hid hw
    have HSB := Lib.hid (show 0 ≤ sumTo (getI gs) k ∧ sumTo (getI gs) k ≤ (k : Int) * 1000000000000 from ⟨(sumTo_pos (fun i hi => by have := (inB_is.1 (hall i hi).2.1).1; omega)).1, (sumTo_bd (fun i hi => by have := inB_is.1 (hall i hi).2.1; omega)).2⟩)
    clear hall hw
    obtain ⟨b0, b1, b2, b3, b4⟩ := (BX.out.on (show Ext w wr by rw [HW.out]; exact Ext.drewN w q)).five
    by_cases hlt : k < vs.length
    · have hkg : (k : Int) < (gs.length : Int) := by have := HG.out; omega
      have hks : (k : Int) < (ss.length : Int) := by have := HSL.out; omega
      have hkv : (k : Int) < (vs.length : Int) := by omega
      have HGK := Lib.hid (show k < gs.length by have := HG.out; omega)
      have HSK := Lib.hid (show k < ss.length by have := HSL.out; omega)
      rcases HC1.out with h0 | ⟨vb, vo, rfl, hc1⟩
      · omega
      rcases HC2.out with h0 | ⟨gb, go, rfl, hc2⟩
      · have := HGK.out; omega
      rcases HC3.out with h0 | ⟨sb, so, rfl, hc3⟩
      · have := HSK.out; omega
      have c1 : wr.cell? ⟨vb, vo + k, none⟩ = some (.float .f32 (getN vs k)) := by rw [HW.out]; exact hc1 k hlt
      have c2 : wr.cell? ⟨gb, go + k, none⟩ = some (.int .i64 (getI gs k)) := by rw [HW.out]; exact hc2 k HGK.out
      have c3 : wr.cell? ⟨sb, so + k, none⟩ = some (.int .i64 (getI ss k)) := by rw [HW.out]; exact hc3 k HSK.out
      obtain ⟨v, hv⟩ : ∃ v, getN vs k = v := ⟨_, rfl⟩
      obtain ⟨x, hx⟩ : ∃ x, getI gs k = x := ⟨_, rfl⟩
      obtain ⟨y, hy⟩ : ∃ y, getI ss k = y := ⟨_, rfl⟩
      obtain ⟨s, hs⟩ : ∃ s, sumTo (getI gs) k = s := ⟨_, rfl⟩
      have HV := Lib.hid hv
      have HX := Lib.hid hx
      have HY := Lib.hid hy
      have HS := Lib.hid hs
      have FV := Lib.hid (show isFin .f32 v = true by rw [← hv]; exact getN_fin HFF.out hlt)
      rw [hv] at c1
      rw [hx] at c2
      rw [hy] at c3
      rw [hs] at HSB ⊢
      have s1 : 0 ≤ s := HSB.out.1
      have s2 : s ≤ 1000000000000000 := by have := HSB.out.2; omega
      by_cases hk0 : k = 0
      · have HUT := Lib.hid (show upAt vs k = true from decide_eq_true (.inl hk0))
        have e0 : ¬ (0 : Int) < (k : Int) := by omega
        have e0' : ¬ 0 < k := by omega
        have e0d : decide ((0 : Int) < (k : Int)) = false := by simp; omega
        have e0e : decide (0 < k) = false := by simp; omega
        have HK0 := Lib.hid hk0
        clear hk0
        cases hin : inB 1 x 1000000
        · have HT := Lib.hid (show r = false by rw [← HR.out]; exact summB_gap (good_bad (i := k) HGK.out (by rw [HX.out, HY.out]; exact gapAt_no1 hin HC6.out)))
          have HIX := Lib.hid hin
          clear hc1 hc2 hc3 hv hx hy hs hin 
          go_wp2
          go_quiet ((go_at_call 73; exact Calls.quiet_of_same (c_l00In_q x 1 1000000 _ HIX.out)))
          go_wp2
          go_ret
          exact ⟨retB (by rw [HT.out]), _, by rw [HW.out, World.drewN_drewN]⟩
        · have HIX := Lib.hid hin
          have x1 := (inB_is.1 hin).1
          have x2 := (inB_is.1 hin).2
          cases hiy : inB 0 y C
          · have HT := Lib.hid (show r = false by rw [← HR.out]; exact summB_gap (good_bad (i := k) HGK.out (by rw [HX.out, HY.out]; exact gapAt_no2 hiy)))
            have HIY := Lib.hid hiy
            clear hc1 hc2 hc3 hv hx hy hs hin hiy 
            go_wp2
            go_quiet (first | (go_at_call_of 73 (Value.int .i64 1000000); exact Calls.quiet_of_same (c_l00In_q x 1 1000000 _ HIX.out)) | (go_at_call 73; exact Calls.quiet_of_same (c_l00In_q y 0 C _ HIY.out)))
            go_wp2
            go_ret
            exact ⟨retB (by rw [HT.out]), _, by rw [HW.out, World.drewN_drewN]⟩
          · have HIY := Lib.hid hiy
            clear hc1 hc2 hc3 hv hx hy hs hin hiy 
            go_wp2
            go_quiet (first | (go_at_call_of 73 (Value.int .i64 1000000); exact Calls.quiet_of_same (c_l00In_q x 1 1000000 _ HIX.out)) | (go_at_call 73; exact Calls.quiet_of_same (c_l00In_q y 0 C _ HIY.out)))
            go_wp2
            go_roundw
            case rel => exact ⟨k + 1, _, by omega, by go_num, by rw [sumTo_succ, HX.out, HS.out], by rw [HW.out, World.drewN_drewN], fun j hj => by
              by_cases e : j = k
              · subst e; exact ⟨HUT.out, by rw [HX.out]; exact HIX.out, by rw [HY.out]; exact HIY.out⟩
              · exact HA.out j (by omega)⟩
            case measure => simp [intOf]; omega
      · obtain ⟨i, hi⟩ : ∃ i, k = i + 1 := ⟨k - 1, by omega⟩
        have c0 : wr.cell? ⟨vb, vo + i, none⟩ = some (.float .f32 (getN vs i)) := by rw [HW.out]; exact hc1 i (by omega)
        obtain ⟨z, hz⟩ : ∃ z, getN vs i = z := ⟨_, rfl⟩
        rw [hz] at c0
        have FZ := Lib.hid (show isFin .f32 z = true by rw [← hz]; exact getN_fin HFF.out (by omega))
        have kl := key_lt FV.out FZ.out
        have HU := Lib.hid (show upAt vs k = decide (fkey z ≤ fkey v) by
          unfold upAt
          rw [show k - 1 = i by omega, hv, hz]
          by_cases e : fkey z ≤ fkey v
          · rw [decide_eq_true e, decide_eq_true (.inr e)]
          · rw [decide_eq_false e, decide_eq_false (by omega)])
        have e1 : (k : Int) - 1 = (i : Int) := by omega
        have e2 : (0 : Int) < (k : Int) := by omega
        have e2' : 0 < k := by omega
        have e3 : (i : Int) < (vs.length : Int) := by omega
        have e4 : (0 : Int) ≤ (i : Int) := by omega
        by_cases hyz : fkey v < fkey z
        · rw [decide_eq_true hyz] at kl
          have HT := Lib.hid (show r = false by
            rw [← HR.out]
            refine summB_asc ?_
            rw [show ascB vs = false from allTo_no hlt (by rw [HU.out]; exact decide_eq_false (by omega))]
            simp)
          clear hc1 hc2 hc3 hv hx hy hs hz hi hyz
          go_wp2
          go_quiet (fail)
          go_wp2
          go_ret
          exact ⟨retB (by rw [HT.out]), _, by rw [HW.out, World.drewN_drewN]⟩
        · rw [decide_eq_false hyz] at kl
          have HUT := Lib.hid (show upAt vs k = true by rw [HU.out]; exact decide_eq_true (by omega))
          cases hin : inB 1 x 1000000
          · have HT := Lib.hid (show r = false by rw [← HR.out]; exact summB_gap (good_bad (i := k) HGK.out (by rw [HX.out, HY.out]; exact gapAt_no1 hin HC6.out)))
            have HIX := Lib.hid hin
            clear hc1 hc2 hc3 hv hx hy hs hin hz hi hyz
            go_wp2
            go_quiet ((go_at_call 73; exact Calls.quiet_of_same (c_l00In_q x 1 1000000 _ HIX.out)))
            go_wp2
            go_ret
            exact ⟨retB (by rw [HT.out]), _, by rw [HW.out, World.drewN_drewN]⟩
          · have HIX := Lib.hid hin
            have x1 := (inB_is.1 hin).1
            have x2 := (inB_is.1 hin).2
            cases hiy : inB 0 y C
            · have HT := Lib.hid (show r = false by rw [← HR.out]; exact summB_gap (good_bad (i := k) HGK.out (by rw [HX.out, HY.out]; exact gapAt_no2 hiy)))
              have HIY := Lib.hid hiy
              clear hc1 hc2 hc3 hv hx hy hs hin hiy hz hi hyz
              go_wp2
              go_quiet (first | (go_at_call_of 73 (Value.int .i64 1000000); exact Calls.quiet_of_same (c_l00In_q x 1 1000000 _ HIX.out)) | (go_at_call 73; exact Calls.quiet_of_same (c_l00In_q y 0 C _ HIY.out)))
              go_wp2
              go_ret
              exact ⟨retB (by rw [HT.out]), _, by rw [HW.out, World.drewN_drewN]⟩
            · have HIY := Lib.hid hiy
              clear hc1 hc2 hc3 hv hx hy hs hin hiy hz hi hyz
              go_wp2
              go_quiet (first | (go_at_call_of 73 (Value.int .i64 1000000); exact Calls.quiet_of_same (c_l00In_q x 1 1000000 _ HIX.out)) | (go_at_call 73; exact Calls.quiet_of_same (c_l00In_q y 0 C _ HIY.out)))
              go_wp2
              go_roundw
              case rel => exact ⟨k + 1, _, by omega, by go_num, by rw [sumTo_succ, HX.out, HS.out], by rw [HW.out, World.drewN_drewN], fun j hj => by
                by_cases e : j = k
                · subst e; exact ⟨HUT.out, by rw [HX.out]; exact HIX.out, by rw [HY.out]; exact HIY.out⟩
                · exact HA.out j (by omega)⟩
              case measure => simp [intOf]; omega
    · obtain rfl : k = vs.length := by omega
      have HAS := Lib.hid (show (finB vs && ascB vs) = true by rw [HFF.out, show ascB vs = true from allTo_yes fun i hi => (HA.out i hi).1]; rfl)
      obtain ⟨s, hs⟩ : ∃ s, sumTo (getI gs) vs.length = s := ⟨_, rfl⟩
      have HS := Lib.hid hs
      rw [hs]
      have HGD := Lib.hid (show r = goodGaps C gs ss by rw [← HR.out]; exact summB_good HD.out HAS.out)
      clear hs
      by_cases hsC : s = C
      · subst hsC
        have HGG := Lib.hid (show gapsB s gs ss = true from allTo_yes fun i hi => by
          rw [HG.out] at hi
          have q1 := HA.out i hi
          have q2 := (sumTo_pos (f := getI gs) (n := vs.length) (fun i hi => by have := (inB_is.1 (HA.out i hi).2.1).1; omega)).2 i hi
          rw [HS.out] at q2
          unfold gapAt
          rw [inB_is.2 ⟨(inB_is.1 q1.2.1).1, q2⟩, q1.2.2]; rfl)
        have HE := Lib.hid (show r = endsB gs ss by rw [HGD.out]; exact good_ends HGG.out (by rw [HG.out]; exact HS.out))
        have e1 : (s == s) = true := by simp
        have e2 : (s != s) = false := by simp
        by_cases hk0 : vs.length = 0
        · have HT := Lib.hid (show r = true by rw [HE.out]; exact ends_0 (by rw [HG.out]; exact hk0))
          have k0 : ((vs.length : Int) == 0) = true := beq_iff_eq.2 (by omega)
          have k1 : (vs.length : Int) = 0 := by omega
          have HK := Lib.hid k1
          clear hk0 k1
          go_wp2
          all_goals try (go_quiet (fail))
          all_goals try go_wp2
          go_ret
          exact ⟨retB (by rw [HT.out]), _, by first | exact HW.out | rw [HW.out, World.drewN_drewN]⟩
        · rcases HC2.out with h0 | ⟨gb, go, rfl, hc2⟩
          · have := HG.out; omega
          rcases HC3.out with h0 | ⟨sb, so, rfl, hc3⟩
          · have := HSL.out; omega
          obtain ⟨m, hm⟩ : ∃ m, vs.length = m + 1 := ⟨vs.length - 1, by omega⟩
          have c1 : wr.cell? ⟨gb, go + 0, none⟩ = some (.int .i64 (getI gs 0)) := by rw [HW.out]; exact hc2 0 (by have := HG.out; omega)
          have c2 : wr.cell? ⟨sb, so + 0, none⟩ = some (.int .i64 (getI ss 0)) := by rw [HW.out]; exact hc3 0 (by have := HSL.out; omega)
          have c3 : wr.cell? ⟨sb, so + m, none⟩ = some (.int .i64 (getI ss m)) := by rw [HW.out]; exact hc3 m (by have := HSL.out; omega)
          simp only [Nat.add_zero] at c1 c2
          obtain ⟨x, hx⟩ : ∃ x, getI gs 0 = x := ⟨_, rfl⟩
          obtain ⟨y, hy⟩ : ∃ y, getI ss 0 = y := ⟨_, rfl⟩
          obtain ⟨z, hz⟩ : ∃ z, getI ss m = z := ⟨_, rfl⟩
          have HEN := Lib.hid (show r = (decide (x = 1) && (decide (y = 0) && decide (z = 0))) by rw [HE.out]; exact ends_n (by rw [HG.out]; omega) hx hy (by rw [HG.out, show vs.length - 1 = m by omega]; exact hz))
          rw [hx] at c1
          rw [hy] at c2
          rw [hz] at c3
          have k0 : ((vs.length : Int) == 0) = false := beq_eq_false_iff_ne.2 (by omega)
          have k1 : ¬ (vs.length : Int) = 0 := by omega
          have k3 : (vs.length : Int) - 1 = (m : Int) := by omega
          have k4 : (m : Int) < (ss.length : Int) := by have := HSL.out; omega
          have k5 : (0 : Int) ≤ (m : Int) := by omega
          have k6 : (0 : Int) < (ss.length : Int) := by have := HSL.out; omega
          have k7 : (0 : Int) < (gs.length : Int) := by have := HG.out; omega
          have k6' : 0 < ss.length := by have := HSL.out; omega
          have k7' : 0 < gs.length := by have := HG.out; omega
          clear hc2 hc3 hx hy hz hm hk0
          by_cases x1 : x = 1
          · subst x1
            by_cases y1 : y = 0
            · subst y1
              by_cases z1 : z = 0
              · subst z1
                go_wp2
                all_goals try (go_quiet (fail))
                all_goals try go_wp2
                go_ret
                exact ⟨retB (by first | (rw [HEN.out]; done) | (rw [HEN.out]; rfl) | (rw [HEN.out]; first | (simp; done))), _, by first | exact HW.out | rw [HW.out, World.drewN_drewN]⟩
              · have z2 : (z == 0) = false := by simpa using z1
                go_wp2
                all_goals try (go_quiet (fail))
                all_goals try go_wp2
                go_ret
                exact ⟨retB (by rw [HEN.out]; simp [z1]), _, by first | exact HW.out | rw [HW.out, World.drewN_drewN]⟩
            · have y2 : (y == 0) = false := by simpa using y1
              go_wp2
              all_goals try (go_quiet (fail))
              all_goals try go_wp2
              go_ret
              exact ⟨retB (by rw [HEN.out]; simp [y1]), _, by first | exact HW.out | rw [HW.out, World.drewN_drewN]⟩
          · have x2 : (x == 1) = false := by simpa using x1
            go_wp2
            all_goals try (go_quiet (fail))
            all_goals try go_wp2
            go_ret
            exact ⟨retB (by rw [HEN.out]; simp [x1]), _, by first | exact HW.out | rw [HW.out, World.drewN_drewN]⟩
      · have HT := Lib.hid (show r = false by rw [HGD.out]; exact good_sum (by rw [HG.out, HS.out]; exact hsC))
        have e1 : (s == C) = false := by simpa using hsC
        have e2 : (s != C) = true := by simpa using hsC
        go_wp2
        go_ret
        exact ⟨retB (by rw [HT.out]), _, HW.out⟩
theorem c_spec_ValidSummary (N C : Int) (a1 : Option Addr) (cap1 : Nat) (vs : List Nat) (a2 : Option Addr) (cap2 : Nat) (gs : List Int) (a3 : Option Addr) (cap3 : Nat) (ss : List Int) (w : World) {r : Bool} (hr : summB N C vs gs ss = r) (hl : vs.length + gs.length + ss.length ≤ 1048576) (h : Reads3 w a1 vs.length (flos vs) a2 gs.length (ints gs) a3 ss.length (ints ss)) (hb : ∀ z ∈ vs, z < 4294967296) :
    Calls Try.prog 20 #[.agg #[.int .i64 N, .int .i64 C, .slice a1 vs.length cap1, .slice a2 gs.length cap2, .slice a3 ss.length cap3]] w fun e w' => e = .returned (.bool r) ∧ Ext w w' := by
  have H := Lib.hid h
  have HR := Lib.hid hr
  clear h hr hb
  go_enter Try.func20, Try.ntmps20
  go_wp2_with (go_at_call 58; refine (c_spec_l05Is _ N C a1 cap1 vs a2 cap2 gs a3 cap3 ss _ HR.out hl (H.out.on (Ext.alloc _ _)) (Box.alloc _ _ _)).mono ?_; rintro e w' ⟨rfl, q, rfl⟩)
  go_ret
  exact ⟨rfl, ((Ext.refl _).stepA _).stepN _⟩
end Go.Proofs.Ytmgkbgdbahijnaa
