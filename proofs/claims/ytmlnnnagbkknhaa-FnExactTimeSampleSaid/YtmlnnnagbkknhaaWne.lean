/- Spans, times in order, CountExactly: both sides. -/
import Derived.Test.YtmlnnnagbkknhaaWna
import Derived.Test.YtmlnnnagbkknhaaBls
namespace Go.Proofs.Ytmlnnnagbkknhaa
open Go.ChangeShapes Go.WideShapes Go.ChangeAt Go.RowKit
set_option linter.unusedVariables false
def hasB (t L x : Int) : Bool := decide (t - L < x) && decide (x ≤ t)
def spanB (t L : Int) : Bool := inB 0 t 1000000 && inB 1 L 1000000
def getB (bs : List Bool) (i : Nat) : Bool := bs[i]?.getD false
def cntX (t L : Int) (ts : List Int) (bs : List Bool) : Nat → Nat
  | 0 => 0
  | i + 1 => if getB bs i && hasB t L (getI ts i) then cntX t L ts bs i + 1 else cntX t L ts bs i
theorem cntX_yes {t L : Int} {ts : List Int} {bs : List Bool} {i : Nat} (h : (getB bs i && hasB t L (getI ts i)) = true) : cntX t L ts bs (i + 1) = cntX t L ts bs i + 1 := if_pos h
theorem cntX_no {t L : Int} {ts : List Int} {bs : List Bool} {i : Nat} (h : (getB bs i && hasB t L (getI ts i)) = false) : cntX t L ts bs (i + 1) = cntX t L ts bs i := if_neg (by rw [h]; decide)
theorem cntX_le (t L : Int) (ts : List Int) (bs : List Bool) : ∀ i, cntX t L ts bs i ≤ i
  | 0 => Nat.le_refl _
  | i + 1 => by
    have := cntX_le t L ts bs i
    cases h : (getB bs i && hasB t L (getI ts i))
    · rw [cntX_no h]; omega
    · rw [cntX_yes h]; omega
def timesC (ts : List Int) : Bool := (decide (1 ≤ ts.length) && decide (ts.length ≤ 128)) && timesB ts
def exactB (ts : List Int) (bs : List Bool) (t L : Int) : Bool := timesC ts && (decide (bs.length = ts.length) && spanB t L)
def exactR (ts : List Int) (bs : List Bool) (t L : Int) : Int × Bool := if exactB ts bs t L then (((cntX t L ts bs ts.length : Nat) : Int), true) else (0, false)
theorem exactR_yes {ts : List Int} {bs : List Bool} {t L : Int} (h : exactB ts bs t L = true) : exactR ts bs t L = (((cntX t L ts bs ts.length : Nat) : Int), true) := if_pos h
theorem exactR_no {ts : List Int} {bs : List Bool} {t L : Int} (h : exactB ts bs t L = false) : exactR ts bs t L = (0, false) := if_neg (by rw [h]; decide)
theorem c_impl_isSpan (t L : Int) (w : World) {b : Bool} (h : spanB t L = b) : Calls Try.prog 63 #[.agg #[.int .i64 t, .int .i64 L]] w fun e w' => e = .returned (.bool b) ∧ Ext w w' := by
  have BX := Lib.hid (Box.alloc w #[.int .i64 t, .int .i64 L] 74)
  obtain ⟨b0, b1⟩ := BX.out.two
  cases ht : inB 0 t 1000000
  · have HR := Lib.hid (show b = false by rw [← h]; unfold spanB; rw [ht]; rfl)
    have HT := Lib.hid ht
    clear h ht
    go_enter Try.func63, Try.ntmps63
    go_wp2_with (go_at_call 88; refine (c_impl_isTime t _ HT.out).mono ?_; rintro e w' ⟨rfl, rfl⟩)
    go_ret
    exact ⟨retB (by rw [HR.out]), Ext.alloc _ _⟩
  have HT := Lib.hid ht
  by_cases h1 : L < 1
  · have HR := Lib.hid (show b = false by rw [← h]; unfold spanB; rw [ht, inB_no (by omega)]; rfl)
    clear h ht
    go_enter Try.func63, Try.ntmps63
    go_wp2_with (go_at_call 88; refine (c_impl_isTime t _ HT.out).mono ?_; rintro e w' ⟨rfl, rfl⟩)
    go_ret
    exact ⟨retB (by first | (rw [HR.out]; done) | (rw [HR.out]; rfl) | (rw [HR.out]; simp; done) | (rw [HR.out]; simp; omega)), Ext.alloc _ _⟩
  by_cases h2 : 1000000 < L
  · have HR := Lib.hid (show b = false by rw [← h]; unfold spanB; rw [ht, inB_no (by omega)]; rfl)
    have h1' : 1 ≤ L := by omega
    clear h ht h1
    go_enter Try.func63, Try.ntmps63
    go_wp2_with (go_at_call 88; refine (c_impl_isTime t _ HT.out).mono ?_; rintro e w' ⟨rfl, rfl⟩)
    go_ret
    exact ⟨retB (by first | (rw [HR.out]; done) | (rw [HR.out]; rfl) | (rw [HR.out]; simp; done) | (rw [HR.out]; simp; omega)), Ext.alloc _ _⟩
  have HR := Lib.hid (show b = true by rw [← h]; unfold spanB; rw [ht, inB_yes (by omega) (by omega)]; rfl)
  have h1' : 1 ≤ L := by omega
  have h2' : L ≤ 1000000 := by omega
  clear h ht h1 h2
  go_enter Try.func63, Try.ntmps63
  go_wp2_with (go_at_call 88; refine (c_impl_isTime t _ HT.out).mono ?_; rintro e w' ⟨rfl, rfl⟩)
  go_ret
  exact ⟨retB (by first | (rw [HR.out]; done) | (rw [HR.out]; rfl) | (rw [HR.out]; simp; done) | (rw [HR.out]; simp; omega)), Ext.alloc _ _⟩
theorem c_impl_has (t L x : Int) (w : World) {b : Bool} (h : hasB t L x = b) (ht0 : 0 ≤ t) (ht1 : t ≤ 1000000) (hL0 : 1 ≤ L) (hL1 : L ≤ 1000000) : Calls Try.prog 64 #[.agg #[.int .i64 t, .int .i64 L], .int .i64 x] w fun e w' => e = .returned (.bool b) ∧ Ext w w' := by
  have BX := Lib.hid (Box.alloc w #[.int .i64 t, .int .i64 L] 74)
  obtain ⟨b0, b1⟩ := BX.out.two
  by_cases h1 : t - L < x
  · by_cases h2 : x ≤ t
    · have HR := Lib.hid (show b = true by rw [← h]; unfold hasB; rw [decide_eq_true h1, decide_eq_true h2]; rfl)
      clear h
      go_enter Try.func64, Try.ntmps64
      go_wp2
      go_ret
      exact ⟨retB (by first | (rw [HR.out]; done) | (rw [HR.out]; rfl) | (rw [HR.out]; simp; done) | (rw [HR.out]; simp; omega)), Ext.alloc _ _⟩
    · have HR := Lib.hid (show b = false by rw [← h]; unfold hasB; rw [decide_eq_true h1, decide_eq_false h2]; rfl)
      have h2' : t < x := by omega
      clear h
      go_enter Try.func64, Try.ntmps64
      go_wp2
      go_ret
      exact ⟨retB (by first | (rw [HR.out]; done) | (rw [HR.out]; rfl) | (rw [HR.out]; simp; done) | (rw [HR.out]; simp; omega)), Ext.alloc _ _⟩
  · have HR := Lib.hid (show b = false by rw [← h]; unfold hasB; rw [decide_eq_false h1]; rfl)
    have h1' : x ≤ t - L := by omega
    clear h
    go_enter Try.func64, Try.ntmps64
    go_wp2
    go_ret
    exact ⟨retB (by first | (rw [HR.out]; done) | (rw [HR.out]; rfl) | (rw [HR.out]; simp; done) | (rw [HR.out]; simp; omega)), Ext.alloc _ _⟩
set_option maxHeartbeats 2000000 in
theorem c_spec_l06Times (a : Option Addr) (n cap : Nat) (ts : List Int) (w : World) {r : Bool} (hr : timesC ts = r) (hn : n ≤ 1048576) (h : Reads w a n (ints ts)) :
    Calls Try.prog 61 #[.slice a n cap] w fun e w' => e = .returned (.bool r) ∧ ∃ q, w' = w.drewN q := by
  obtain ⟨hz, hrd⟩ := h.int
  have HZ := Lib.hid hz
  have HR := Lib.hid hrd
  have HB := Lib.hid hr
  have hn' : (n : Int) ≤ 1048576 := by omega
  clear h hz hrd hr
  go_enter Try.func61, Try.ntmps61
  go_wp2
  go_loopw [3] (fun i wr => ∃ k q : Nat, k ≤ n ∧ i = .int .i64 k ∧ wr = w.drewN q ∧ ∀ j, j < k → tAt ts j = true) (fun i _ => n - (intOf i).toNat)
  case atStart => exact ⟨0, 0, Nat.zero_le _, rfl, rfl, fun j hj => absurd hj (Nat.not_lt_zero _)⟩
  case round =>
    obtain ⟨k, q, hk, rfl, hw, hall⟩ := hrel
    have HA := Lib.hid hall
    have HW := Lib.hid hw
    clear hall hw
    by_cases hlt : k < n
    · rcases HR.out with h0 | ⟨b, off, rfl, hc⟩
      · omega
      have c1 : wr.cell? ⟨b, off + k, none⟩ = some (.int .i64 (getI ts k)) := by rw [HW.out]; exact hc k hlt
      obtain ⟨x, hx⟩ : ∃ x, getI ts k = x := ⟨_, rfl⟩
      have HX := Lib.hid hx
      rw [hx] at c1
      have hkn : (k : Int) < (n : Int) := by omega
      cases htx : inB 0 x 1000000
      · have HTX := Lib.hid htx
        have HF := Lib.hid (show r = false by rw [← HB.out]; unfold timesC; rw [show timesB ts = false from allTo_no (i := k) (by rw [HZ.out]; exact hlt) (by unfold tAt; rw [HX.out, htx]; rfl)]; simp)
        clear htx hc hx
        go_wp2
        go_quiet (first | (go_at_call 62; exact Calls.quiet_of_same (c_spec_l06Time x _ HTX.out)))
        go_wp2
        go_ret
        exact ⟨retB (by rw [HF.out]), _, by rw [HW.out, World.drewN_drewN]⟩
      have HTX := Lib.hid htx
      clear htx
      by_cases k0 : k = 0
      · subst k0
        rw [Nat.add_zero] at c1
        have HN := Lib.hid (show ∀ j, j < 0 + 1 → tAt ts j = true from fun j hj => by
          obtain rfl : j = 0 := by omega
          unfold tAt; rw [HX.out, HTX.out, ascAt_0]; rfl)
        clear hc hx
        go_wp2
        go_quiet (first | (go_at_call 62; exact Calls.quiet_of_same (c_spec_l06Time x _ HTX.out)))
        go_wp2
        go_roundw
        case rel => exact ⟨0 + 1, _, by omega, by go_num, by rw [HW.out, World.drewN_drewN], HN.out⟩
        case measure => simp [intOf]; omega
      obtain ⟨p, rfl⟩ : ∃ p, k = p + 1 := ⟨k - 1, by omega⟩
      have c2 : wr.cell? ⟨b, off + p, none⟩ = some (.int .i64 (getI ts p)) := by rw [HW.out]; exact hc p (by omega)
      obtain ⟨y, hy⟩ : ∃ y, getI ts p = y := ⟨_, rfl⟩
      have HY := Lib.hid hy
      rw [hy] at c2
      have i1 : (0 : Int) < (p : Int) + 1 := by omega
      have i2 : (p : Int) + 1 - 1 = (p : Int) := by omega
      have i3 : (p : Int) < (n : Int) := by omega
      clear hc hx hy k0
      by_cases g1 : x < y
      · have HF := Lib.hid (show r = false by rw [← HB.out]; unfold timesC; rw [show timesB ts = false from allTo_no (i := p + 1) (by rw [HZ.out]; exact hlt) (by unfold tAt; rw [HX.out, HTX.out, ascAt_n (by rw [HX.out, HY.out]; exact g1)]; rfl)]; simp)
        have g1d : decide (x < y) = true := decide_eq_true g1
        go_wp2
        go_quiet (first | (go_at_call 62; exact Calls.quiet_of_same (c_spec_l06Time x _ HTX.out)))
        go_wp2
        go_ret
        exact ⟨retB (by rw [HF.out]), _, by rw [HW.out, World.drewN_drewN]⟩
      · have g1d : decide (x < y) = false := decide_eq_false g1
        have g1' : y ≤ x := by omega
        have HN := Lib.hid (show ∀ j, j < p + 1 + 1 → tAt ts j = true from fun j hj => by
          by_cases e : j = p + 1
          · subst e; unfold tAt; rw [HX.out, HTX.out, ascAt_s (by rw [HX.out, HY.out]; exact g1')]; rfl
          · exact HA.out j (by omega))
        go_wp2
        go_quiet (first | (go_at_call 62; exact Calls.quiet_of_same (c_spec_l06Time x _ HTX.out)))
        go_wp2
        go_roundw
        case rel => exact ⟨p + 1 + 1, _, by omega, by go_num, by rw [HW.out, World.drewN_drewN], HN.out⟩
        case measure => simp [intOf]; omega
    · obtain rfl : k = n := by omega
      have HT := Lib.hid (show timesB ts = true from allTo_yes (by rw [HZ.out]; exact HA.out))
      by_cases g1 : k < 1
      · have HF := Lib.hid (show r = false by rw [← HB.out]; unfold timesC; rw [HZ.out, decide_eq_false (by omega)]; rfl)
        have g1' : (k : Int) < 1 := by omega
        clear hlt
        go_wp2
        go_ret
        exact ⟨retB (by first | (rw [HF.out]; done) | (rw [HF.out]; rfl) | (rw [HF.out]; simp; done) | (rw [HF.out]; simp; omega)), _, HW.out⟩
      by_cases g2 : 128 < k
      · have HF := Lib.hid (show r = false by rw [← HB.out]; unfold timesC; rw [HZ.out, decide_eq_false (show ¬ k ≤ 128 by omega)]; simp)
        have g1' : (1 : Int) ≤ (k : Int) := by omega
        have g2' : (128 : Int) < (k : Int) := by omega
        clear hlt
        go_wp2
        go_ret
        exact ⟨retB (by first | (rw [HF.out]; done) | (rw [HF.out]; rfl) | (rw [HF.out]; simp; done) | (rw [HF.out]; simp; omega)), _, HW.out⟩
      have HF := Lib.hid (show r = true by rw [← HB.out]; unfold timesC; rw [HZ.out, decide_eq_true (show 1 ≤ k by omega), decide_eq_true (show k ≤ 128 by omega), HT.out]; rfl)
      have g1' : (1 : Int) ≤ (k : Int) := by omega
      have g2' : (k : Int) ≤ 128 := by omega
      clear hlt
      go_wp2
      go_ret
      exact ⟨retB (by first | (rw [HF.out]; done) | (rw [HF.out]; rfl) | (rw [HF.out]; simp; done) | (rw [HF.out]; simp; omega)), _, HW.out⟩
theorem ret_ib {a c : Int} {b d : Bool} (h : a = c) (h' : b = d) : Ending.returned (.tuple #[.int .i64 a, .bool b]) = .returned (.tuple #[.int .i64 c, .bool d]) := by rw [h, h']
set_option maxHeartbeats 4000000 in
theorem c_spec_CountExactly (a0 : Option Addr) (n cap0 : Nat) (ts : List Int) (a1 : Option Addr) (n1 cap1 : Nat) (bs : List Bool) (t L : Int) (w : World) {v : Int} {b : Bool} (hv : exactR ts bs t L = (v, b)) (hm : n ≤ 1048576) (h : Reads w a0 n (ints ts)) (hm1 : n1 ≤ 1048576) (h1 : Reads w a1 n1 (bools bs)) :
    Calls Try.prog 30 #[.slice a0 n cap0, .slice a1 n1 cap1, .int .i64 t, .int .i64 L] w fun e w' => e = .returned (.tuple #[.int .i64 v, .bool b]) ∧ Ext w w' := by
  have H := Lib.hid h
  have HM := Lib.hid hm
  obtain ⟨hz, hrd⟩ := h.int
  obtain ⟨hz1, hrd1⟩ := h1.bool
  have HZ := Lib.hid hz
  have HZ1 := Lib.hid hz1
  have HR := Lib.hid hrd
  have HR1 := Lib.hid hrd1
  have hm' : (n : Int) ≤ 1048576 := by omega
  have hm1' : (n1 : Int) ≤ 1048576 := by omega
  clear h h1 hrd hrd1
  cases ht : timesC ts
  · rw [exactR_no (by unfold exactB; rw [ht]; rfl)] at hv
    simp only [Prod.mk.injEq] at hv
    obtain ⟨rfl, rfl⟩ := hv
    have HT := Lib.hid ht
    clear ht hz hz1
    go_enter Try.func30, Try.ntmps30
    go_wp2_with (go_at_call 61; refine (c_spec_l06Times _ _ _ ts _ HT.out HM.out H.out).mono ?_; rintro e w' ⟨rfl, q, rfl⟩)
    go_ret2
    exact ⟨rfl, Ext.drewN _ _⟩
  have HT := Lib.hid ht
  by_cases hl : ¬ n1 = n
  · rw [exactR_no (by unfold exactB; rw [hz, hz1, decide_eq_false hl]; simp)] at hv
    simp only [Prod.mk.injEq] at hv
    obtain ⟨rfl, rfl⟩ := hv
    have e1 : ((n1 : Int) == (n : Int)) = false := by simp; omega
    have e2 : ((n1 : Int) != (n : Int)) = true := by simp; omega
    clear ht hz hz1 hl
    go_enter Try.func30, Try.ntmps30
    go_wp2_with (go_at_call 61; refine (c_spec_l06Times _ _ _ ts _ HT.out HM.out H.out).mono ?_; rintro e w' ⟨rfl, q, rfl⟩)
    go_ret2
    exact ⟨rfl, Ext.drewN _ _⟩
  obtain rfl : n1 = n := Classical.byContradiction hl
  have e1 : ((n1 : Int) == (n1 : Int)) = true := by simp
  have e2 : ((n1 : Int) != (n1 : Int)) = false := by simp
  cases hti : inB 0 t 1000000
  · rw [exactR_no (by unfold exactB spanB; rw [hti]; simp)] at hv
    simp only [Prod.mk.injEq] at hv
    obtain ⟨rfl, rfl⟩ := hv
    have HTI := Lib.hid hti
    clear ht hz hz1 hl hti
    go_enter Try.func30, Try.ntmps30
    go_wp2_with (first | (go_at_call 61; refine (c_spec_l06Times _ _ _ ts _ HT.out HM.out H.out).mono ?_; rintro e w' ⟨rfl, q, rfl⟩) | (go_at_call 62; refine (c_spec_l06Time t _ HTI.out).mono ?_; rintro e w2 ⟨rfl, hw2⟩; rw [hw2]; clear hw2))
    go_ret2
    exact ⟨rfl, Ext.drewN _ _⟩
  have HTI := Lib.hid hti
  cases hli : inB 1 L 1000000
  · rw [exactR_no (by unfold exactB spanB; rw [hli]; simp)] at hv
    simp only [Prod.mk.injEq] at hv
    obtain ⟨rfl, rfl⟩ := hv
    have HLI := Lib.hid hli
    clear ht hz hz1 hl hti hli
    go_enter Try.func30, Try.ntmps30
    go_wp2_with (first | (go_at_call 61; refine (c_spec_l06Times _ _ _ ts _ HT.out HM.out H.out).mono ?_; rintro e w' ⟨rfl, q, rfl⟩) | (go_at_call 62; refine (c_spec_l06Time t _ HTI.out).mono ?_; rintro e w2 ⟨rfl, hw2⟩; rw [hw2]; clear hw2) | (go_at_call 51; refine (c_l00In_w L 1 1000000 _ HLI.out).mono ?_; rintro e w3 ⟨rfl, rfl⟩))
    go_ret2
    exact ⟨rfl, Ext.drewN _ _⟩
  have HLI := Lib.hid hli
  have hb1 := inB_isW.1 hti
  have hb2 := inB_isW.1 hli
  rw [exactR_yes (by unfold exactB spanB; rw [ht, hz, hz1, decide_eq_true rfl, hti, hli]; rfl), hz] at hv
  simp only [Prod.mk.injEq] at hv
  obtain ⟨hv1, rfl⟩ := hv
  have HV := Lib.hid hv1
  obtain ⟨d, hd⟩ : ∃ d, t - L = d := ⟨_, rfl⟩
  have HD := Lib.hid hd
  have hwd : wrap64 (t - L) = d := by unfold wrap64; omega
  obtain ⟨hb3, hb4⟩ := hb1
  obtain ⟨hb5, hb6⟩ := hb2
  clear ht hz hz1 hl hti hli hv1
  go_enter Try.func30, Try.ntmps30
  go_wp2_with (first | (go_at_call 61; refine (c_spec_l06Times _ _ _ ts _ HT.out HM.out H.out).mono ?_; rintro e w' ⟨rfl, q, rfl⟩) | (go_at_call 62; refine (c_spec_l06Time t _ HTI.out).mono ?_; rintro e w2 ⟨rfl, hw2⟩; rw [hw2]; clear hw2) | (go_at_call 51; refine (c_l00In_w L 1 1000000 _ HLI.out).mono ?_; rintro e w3 ⟨rfl, rfl⟩))
  go_loopw [10, 11] (fun c i wr => ∃ k q : Nat, k ≤ n1 ∧ i = .int .i64 k ∧ c = .int .i64 (cntX t L ts bs k : Nat) ∧ wr = w.drewN q) (fun _ i _ => n1 - (intOf i).toNat)
  case atStart => exact ⟨0, _, Nat.zero_le _, rfl, rfl, rfl⟩
  case round =>
    obtain ⟨k, q2, hk, rfl, rfl, hw⟩ := hrel
    have HW := Lib.hid hw
    clear hw
    by_cases hlt : k < n1
    · rcases HR.out with h0 | ⟨b0, off, rfl, hc⟩
      · omega
      rcases HR1.out with h0 | ⟨b1, off1, rfl, hc1⟩
      · omega
      have c1 : wr.cell? ⟨b0, off + k, none⟩ = some (.int .i64 (getI ts k)) := by rw [HW.out]; exact hc k hlt
      have c2 : wr.cell? ⟨b1, off1 + k, none⟩ = some (.bool (getB bs k)) := by rw [HW.out]; exact hc1 k hlt
      have hle := cntX_le t L ts bs k
      obtain ⟨c, hcc⟩ : ∃ c, cntX t L ts bs k = c := ⟨_, rfl⟩
      obtain ⟨x, hx⟩ : ∃ x, getI ts k = x := ⟨_, rfl⟩
      obtain ⟨y, hy⟩ : ∃ y, getB bs k = y := ⟨_, rfl⟩
      have HC := Lib.hid hcc
      have HX := Lib.hid hx
      have HY := Lib.hid hy
      rw [hcc] at hle ⊢
      rw [hx] at c1
      rw [hy] at c2
      have hkn : (k : Int) < (n1 : Int) := by omega
      have hc5 : (c : Int) ≤ 1048576 := by omega
      clear hc hc1 hcc hx hy
      cases y
      · have HN := Lib.hid (show cntX t L ts bs (k + 1) = c by rw [cntX_no (by rw [HY.out]; rfl)]; exact HC.out)
        go_wp2
        first | go_roundw | (go_quiet (fail); go_wp2; go_roundw)
        case rel => exact ⟨k + 1, _, by omega, by go_num, by rw [HN.out], by first | exact HW.out | rw [HW.out, World.drewN_drewN]⟩
        case measure => simp [intOf]; omega
      · by_cases g1 : d < x
        · by_cases g2 : x ≤ t
          · have HN := Lib.hid (show cntX t L ts bs (k + 1) = c + 1 by rw [cntX_yes (by rw [HY.out, HX.out]; unfold hasB; rw [HD.out, decide_eq_true g1, decide_eq_true g2]; rfl), HC.out])
            have g1d : decide (d < x) = true := decide_eq_true g1
            have g2d : decide (x ≤ t) = true := decide_eq_true g2
            go_wp2
            first | go_roundw | (go_quiet (fail); go_wp2; go_roundw)
            case rel => exact ⟨k + 1, _, by omega, by go_num, by rw [HN.out]; go_num, by first | exact HW.out | rw [HW.out, World.drewN_drewN]⟩
            case measure => simp [intOf]; omega
          · have HN := Lib.hid (show cntX t L ts bs (k + 1) = c by rw [cntX_no (by rw [HY.out, HX.out]; unfold hasB; rw [decide_eq_false g2]; simp)]; exact HC.out)
            have g1d : decide (d < x) = true := decide_eq_true g1
            have g2d : decide (x ≤ t) = false := decide_eq_false g2
            have g2' : t < x := by omega
            go_wp2
            first | go_roundw | (go_quiet (fail); go_wp2; go_roundw)
            case rel => exact ⟨k + 1, _, by omega, by go_num, by rw [HN.out], by first | exact HW.out | rw [HW.out, World.drewN_drewN]⟩
            case measure => simp [intOf]; omega
        · have HN := Lib.hid (show cntX t L ts bs (k + 1) = c by rw [cntX_no (by rw [HY.out, HX.out]; unfold hasB; rw [HD.out, decide_eq_false g1]; rfl)]; exact HC.out)
          have g1d : decide (d < x) = false := decide_eq_false g1
          have g1' : x ≤ d := by omega
          go_wp2
          first | go_roundw | (go_quiet (fail); go_wp2; go_roundw)
          case rel => exact ⟨k + 1, _, by omega, by go_num, by rw [HN.out], by first | exact HW.out | rw [HW.out, World.drewN_drewN]⟩
          case measure => simp [intOf]; omega
    · obtain rfl : k = n1 := by omega
      obtain ⟨c, hcc⟩ : ∃ c, cntX t L ts bs k = c := ⟨_, rfl⟩
      have HC := Lib.hid (show v = (c : Int) by rw [← HV.out, hcc])
      rw [hcc]
      clear hcc hwd
      go_wp2
      go_ret2
      exact ⟨ret_ib (by rw [HC.out]) rfl, by rw [HW.out]; exact Ext.drewN _ _⟩
set_option maxHeartbeats 8000000 in
theorem c_impl_CountExactly (a0 : Option Addr) (n cap0 : Nat) (ts : List Int) (a1 : Option Addr) (n1 cap1 : Nat) (bs : List Bool) (t L : Int) (w : World) {v : Int} {b : Bool} (hv : exactR ts bs t L = (v, b)) (hm : n ≤ 1048576) (h : Reads w a0 n (ints ts)) (hm1 : n1 ≤ 1048576) (h1 : Reads w a1 n1 (bools bs)) :
    Calls Try.prog 33 #[.slice a0 n cap0, .slice a1 n1 cap1, .int .i64 t, .int .i64 L] w fun e w' => e = .returned (.tuple #[.int .i64 v, .bool b]) ∧ Ext w w' := by
  have H := Lib.hid h
  have HM := Lib.hid hm
  obtain ⟨hz, hrd⟩ := h.int
  obtain ⟨hz1, hrd1⟩ := h1.bool
  have HZ := Lib.hid hz
  have HZ1 := Lib.hid hz1
  have HR := Lib.hid hrd
  have HR1 := Lib.hid hrd1
  have hm' : (n : Int) ≤ 1048576 := by omega
  have hm1' : (n1 : Int) ≤ 1048576 := by omega
  have BX := Lib.hid (Box.alloc w #[.int .i64 t, .int .i64 L] 74)
  have X0 := Lib.hid (Ext.alloc w (.cells #[.int .i64 t, .int .i64 L] 74))
  obtain ⟨b0, b1⟩ := BX.out.two
  clear h h1 hrd hrd1
  cases hs : spanB t L
  · rw [exactR_no (by unfold exactB; rw [hs]; simp)] at hv
    simp only [Prod.mk.injEq] at hv
    obtain ⟨rfl, rfl⟩ := hv
    have HS := Lib.hid hs
    clear hs hz hz1
    go_enter Try.func33, Try.ntmps33
    go_wp2_with fail
    clear b0 b1
    refine (c_impl_isSpan t L _ HS.out).mono ?_; rintro e w1 ⟨rfl, x1⟩
    go_wp2
    go_ret2
    exact ⟨rfl, X0.out.trans x1⟩
  have HS := Lib.hid hs
  cases ht : (decide (n ≤ 128) && timesB ts)
  · rw [exactR_no (by unfold exactB timesC; rw [hz]; cases hq : decide (n ≤ 128)
                      · simp
                      · rw [hq] at ht; rw [show timesB ts = false from ht]; simp)] at hv
    simp only [Prod.mk.injEq] at hv
    obtain ⟨rfl, rfl⟩ := hv
    have HT := Lib.hid ht
    clear ht hz hz1 hs
    go_enter Try.func33, Try.ntmps33
    go_wp2_with fail
    clear b0 b1
    refine (c_impl_isSpan t L _ HS.out).mono ?_; rintro e w1 ⟨rfl, x1⟩
    have X1 := Lib.hid (X0.out.trans x1)
    clear x1
    go_wp2_with fail
    refine (c_impl_areTimes _ _ _ ts _ HT.out HM.out (H.out.on X1.out)).mono ?_; rintro e w2 ⟨rfl, q, rfl⟩
    go_wp2
    go_ret2
    exact ⟨rfl, X1.out.stepN _⟩
  have HT := Lib.hid ht
  rw [Bool.and_eq_true, decide_eq_true_eq] at ht
  by_cases hl : n = 0 ∨ ¬ n1 = n
  · rw [exactR_no (by unfold exactB timesC; rw [hz, hz1]; rcases hl with rfl | hl
                      · rfl
                      · rw [decide_eq_false hl]; simp)] at hv
    simp only [Prod.mk.injEq] at hv
    obtain ⟨rfl, rfl⟩ := hv
    by_cases h0 : n = 0
    · subst h0
      clear ht hz hz1 hs hl
      go_enter Try.func33, Try.ntmps33
      go_wp2_with fail
      clear b0 b1
      refine (c_impl_isSpan t L _ HS.out).mono ?_; rintro e w1 ⟨rfl, x1⟩
      have X1 := Lib.hid (X0.out.trans x1)
      clear x1
      go_wp2_with fail
      refine (c_impl_areTimes _ _ _ ts _ HT.out HM.out (H.out.on X1.out)).mono ?_; rintro e w2 ⟨rfl, q, rfl⟩
      go_wp2
      go_ret2
      exact ⟨rfl, X1.out.stepN _⟩
    · have e0 : ((n : Int) == 0) = false := by simp; omega
      have e0' : ¬ (n : Int) = 0 := by omega
      have e1 : ((n1 : Int) == (n : Int)) = false := by simp; omega
      have e2 : ((n1 : Int) != (n : Int)) = true := by simp; omega
      clear ht hz hz1 hs hl h0
      go_enter Try.func33, Try.ntmps33
      go_wp2_with fail
      clear b0 b1
      refine (c_impl_isSpan t L _ HS.out).mono ?_; rintro e w1 ⟨rfl, x1⟩
      have X1 := Lib.hid (X0.out.trans x1)
      clear x1
      go_wp2_with fail
      refine (c_impl_areTimes _ _ _ ts _ HT.out HM.out (H.out.on X1.out)).mono ?_; rintro e w2 ⟨rfl, q, rfl⟩
      go_wp2
      go_ret2
      exact ⟨rfl, X1.out.stepN _⟩
  have hn0 : n ≠ 0 := fun e => hl (.inl e)
  obtain rfl : n1 = n := Classical.byContradiction fun e => hl (.inr e)
  have e0 : ((n1 : Int) == 0) = false := by simp; omega
  have e0' : ¬ (n1 : Int) = 0 := by omega
  have e1 : ((n1 : Int) == (n1 : Int)) = true := by simp
  have e2 : ((n1 : Int) != (n1 : Int)) = false := by simp
  rw [exactR_yes (by unfold exactB timesC; rw [hz, hz1, decide_eq_true (show 1 ≤ n1 by omega), decide_eq_true ht.1, ht.2, hs, decide_eq_true rfl]; rfl), hz] at hv
  simp only [Prod.mk.injEq] at hv
  obtain ⟨hv1, rfl⟩ := hv
  have HV := Lib.hid hv1
  have hs2 : inB 0 t 1000000 = true ∧ inB 1 L 1000000 = true := by unfold spanB at hs; rwa [Bool.and_eq_true] at hs
  have HB1 := Lib.hid (inB_isW.1 hs2.1)
  have HB2 := Lib.hid (inB_isW.1 hs2.2)
  clear ht hz hz1 hs hl hv1 hs2
  go_enter Try.func33, Try.ntmps33
  go_wp2_with fail
  clear b0 b1
  refine (c_impl_isSpan t L _ HS.out).mono ?_; rintro e w1 ⟨rfl, x1⟩
  have X1 := Lib.hid (X0.out.trans x1)
  have B1 := Lib.hid (BX.out.on x1)
  clear x1
  go_wp2_with fail
  refine (c_impl_areTimes _ _ _ ts _ HT.out HM.out (H.out.on X1.out)).mono ?_; rintro e w2 ⟨rfl, q, rfl⟩
  go_wp2_with fail
  go_loopw [11, 39] (fun c i wr => ∃ k : Nat, k ≤ n1 ∧ i = .int .i64 k ∧ c = .int .i64 (cntX t L ts bs k : Nat) ∧ Ext (w1.drewN q) wr) (fun _ i _ => n1 - (intOf i).toNat)
  case atStart => exact ⟨0, Nat.zero_le _, rfl, rfl, Ext.refl _⟩
  case round =>
    obtain ⟨k, hk, rfl, rfl, hw⟩ := hrel
    have HW := Lib.hid hw
    have XW := Lib.hid (show Ext w wr from (X1.out.stepN q).trans hw)
    have BW := Lib.hid ((B1.out.on (Ext.drewN _ q)).on hw)
    clear hw
    by_cases hlt : k < n1
    · rcases HR.out with h0 | ⟨b0, off, rfl, hc⟩
      · omega
      rcases HR1.out with h0 | ⟨b1, off1, rfl, hc1⟩
      · omega
      have c1 : wr.cell? ⟨b0, off + k, none⟩ = some (.int .i64 (getI ts k)) := Ext.some XW.out (hc k hlt)
      have c2 : wr.cell? ⟨b1, off1 + k, none⟩ = some (.bool (getB bs k)) := Ext.some XW.out (hc1 k hlt)
      have hle := cntX_le t L ts bs k
      obtain ⟨c, hcc⟩ : ∃ c, cntX t L ts bs k = c := ⟨_, rfl⟩
      obtain ⟨x, hx⟩ : ∃ x, getI ts k = x := ⟨_, rfl⟩
      obtain ⟨y, hy⟩ : ∃ y, getB bs k = y := ⟨_, rfl⟩
      have HC := Lib.hid hcc
      have HX := Lib.hid hx
      have HY := Lib.hid hy
      rw [hcc] at hle ⊢
      rw [hx] at c1
      rw [hy] at c2
      have hkn : (k : Int) < (n1 : Int) := by omega
      have hc5 : (c : Int) ≤ 1048576 := by omega
      have C1 := Lib.hid c1
      obtain ⟨f0, f1⟩ := BW.out.two
      clear hc hc1 hcc hx hy
      cases y
      · have HN := Lib.hid (show cntX t L ts bs (k + 1) = c by rw [cntX_no (by rw [HY.out]; rfl)]; exact HC.out)
        go_wp2
        first | go_roundw | (go_quiet (fail); go_wp2; go_roundw)
        case rel => exact ⟨k + 1, by omega, by go_num, by rw [HN.out], by have := HW.out; (repeat (first | assumption | exact Ext.refl _ | (with_reducible refine Ext.stepS ?_ (by first | exact Nat.le_refl _ | (simp; done) | (simp; omega)) _) | (with_reducible refine Ext.stepN ?_ _) | (with_reducible refine Ext.stepD ?_) | (with_reducible refine Ext.stepA ?_ _)))⟩
        case measure => simp [intOf]; omega
      · cases hb : hasB t L x
        · have HB := Lib.hid hb
          have HN := Lib.hid (show cntX t L ts bs (k + 1) = c by rw [cntX_no (by rw [HY.out, HX.out, hb]; rfl)]; exact HC.out)
          clear hb
          go_upto_region 8 with fail
          first | (go_region_held3 (fun w' => w'.cell? ⟨w.heap.size, 0, none⟩ = some (.int .i64 t) ∧ w'.cell? ⟨w.heap.size, 1, none⟩ = some (.int .i64 L) ∧ w'.cell? ⟨b0, off + k, none⟩ = some (.int .i64 x)) (first | exact KA | go_keep) (first | (go_at_call 64; refine (c_impl_has t L x _ HB.out HB1.out.1 HB1.out.2 HB2.out.1 HB2.out.2).mono ?_; rintro e v1 ⟨rfl, x1⟩; have EA : Ext wr v1 := Ext.trans (by (repeat (first | assumption | exact Ext.refl _ | (with_reducible refine Ext.stepS ?_ (by first | exact Nat.le_refl _ | (simp; done) | (simp; omega)) _) | (with_reducible refine Ext.stepN ?_ _) | (with_reducible refine Ext.stepD ?_) | (with_reducible refine Ext.stepA ?_ _)))) x1; have K1 := (BW.out.on EA).two; have K2 := Ext.some EA C1.out; have KA := And.intro K1.1 (And.intro K1.2 K2); clear x1 K1 K2))) | fail
          all_goals
            go_wp2
            go_roundw
            case rel => exact ⟨k + 1, by omega, by go_num, by rw [HN.out], HW.out.trans EA⟩
            case measure => simp [intOf]; omega
        · have HB := Lib.hid hb
          have HN := Lib.hid (show cntX t L ts bs (k + 1) = c + 1 by rw [cntX_yes (by rw [HY.out, HX.out, hb]; rfl), HC.out])
          clear hb
          go_upto_region 8 with fail
          first | (go_region_held3 (fun w' => w'.cell? ⟨w.heap.size, 0, none⟩ = some (.int .i64 t) ∧ w'.cell? ⟨w.heap.size, 1, none⟩ = some (.int .i64 L) ∧ w'.cell? ⟨b0, off + k, none⟩ = some (.int .i64 x)) (first | exact KA | go_keep) (first | (go_at_call 64; refine (c_impl_has t L x _ HB.out HB1.out.1 HB1.out.2 HB2.out.1 HB2.out.2).mono ?_; rintro e v1 ⟨rfl, x1⟩; have EA : Ext wr v1 := Ext.trans (by (repeat (first | assumption | exact Ext.refl _ | (with_reducible refine Ext.stepS ?_ (by first | exact Nat.le_refl _ | (simp; done) | (simp; omega)) _) | (with_reducible refine Ext.stepN ?_ _) | (with_reducible refine Ext.stepD ?_) | (with_reducible refine Ext.stepA ?_ _)))) x1; have K1 := (BW.out.on EA).two; have K2 := Ext.some EA C1.out; have KA := And.intro K1.1 (And.intro K1.2 K2); clear x1 K1 K2))) | fail
          all_goals
            go_wp2
            go_roundw
            case rel => exact ⟨k + 1, by omega, by go_num, by rw [HN.out]; go_num, HW.out.trans EA⟩
            case measure => simp [intOf]; omega
    · obtain rfl : k = n1 := by omega
      obtain ⟨c, hcc⟩ : ∃ c, cntX t L ts bs k = c := ⟨_, rfl⟩
      have HC := Lib.hid (show v = (c : Int) by rw [← HV.out, hcc])
      rw [hcc]
      clear hcc
      go_wp2
      go_ret2
      exact ⟨ret_ib (by rw [HC.out]) rfl, XW.out⟩
end Go.Proofs.Ytmlnnnagbkknhaa
