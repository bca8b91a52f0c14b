/- Windows: valid ones, on both sides. -/
import Derived.Test.YtgejfeedcphfkaaDoorNkd
import Derived.Test.YtgejfeedcphfkaaDoorWnp
import Derived.Test.YtgejfeedcphfkaaDoorGri
import Derived.Test.YtgejfeedcphfkaaDoorLea
import Derived.Deep.QuietTactic
import Derived.BigQuiet
import Derived.Deep.RegionWith
import Derived.Deep.RegionHeld3
import Derived.Deep.DeepCutAuto
import Derived.Deep.LoopGhost
namespace Go.Proofs.YtgejfeedcphfkaaDoor
open Go.ChangeShapes Go.WideShapes Go.ChangeAt Go.RowKit
set_option linter.unusedVariables false
theorem c_l00In_w (k lo hi : Int) (w : World) {b : Bool} (h : inB lo k hi = b) : Calls Tryd.prog 75 #[.int .i64 k, .int .i64 lo, .int .i64 hi] w fun e w' => e = .returned (.bool b) ∧ w = w' := by
  subst h; exact (c_l00In k lo hi w).mono (by rintro e w' ⟨rfl, rfl⟩; exact ⟨rfl, rfl⟩)
theorem c_l00In_q (k lo hi : Int) (w : World) {b : Bool} (h : inB lo k hi = b) : Calls Tryd.prog 75 #[.int .i64 k, .int .i64 lo, .int .i64 hi] w fun e w' => e = .returned (.bool b) ∧ w' = w := by
  subst h; exact (c_l00In k lo hi w).mono (by rintro e w' ⟨rfl, rfl⟩; exact ⟨rfl, rfl⟩)
theorem c_spec_l06Time (k : Int) (w : World) {b : Bool} (h : inB 0 k 1000000 = b) : Calls Tryd.prog 85 #[.int .i64 k] w fun e w' => e = .returned (.bool b) ∧ w' = w := by
  have H := Lib.hid h
  clear h
  go_enter Tryd.func85, Tryd.ntmps85
  go_wp2_with (go_at_call 75; refine (c_l00In_w k 0 1000000 _ H.out).mono ?_; rintro e w' ⟨rfl, rfl⟩)
  go_ret
  exact ⟨rfl, rfl⟩
theorem c_cmpLess_sm (x y : Int) (w : World) {b : Bool} (h : decide (x < y) = b) : Calls Tryd.prog 114 #[.int .i64 x, .int .i64 y] w fun e w' => e = .returned (.bool b) ∧ w' = w :=
  (c_cmpLess x y w h).mono (by rintro e w' ⟨rfl, rfl⟩; exact ⟨rfl, rfl⟩)
set_option maxHeartbeats 1000000 in
theorem c_IsSortedI (a : Option Addr) (n cap : Nat) (zs : List Int) (w : World) {r : Bool} (hr : ascI zs = r) (hn : n ≤ 1048576) (h : Reads w a n (ints zs)) :
    Calls Tryd.prog 104 #[.slice a n cap] w fun e w' => e = .returned (.bool r) ∧ ∃ q, w' = w.drewN q := by
  obtain ⟨hz, hrd⟩ := h.int
  have HZ := Lib.hid hz
  have HR := Lib.hid hr
  have hn' : (n : Int) ≤ 1048576 := by omega
  by_cases h0 : n = 0
  · subst h0
    have HT := Lib.hid (show r = true by rw [← HR.out]; unfold ascI; exact allTo_yes fun i hi => by rw [HZ.out] at hi; omega)
    clear h hz hrd hr
    go_enter Tryd.func104, Tryd.ntmps104
    go_wp2
    go_loopw [3] (fun i wr => i = .int .i64 (-1) ∧ wr = w) (fun i _ => 0)
    case atStart => exact ⟨by first | rfl | exact congrArg (Value.int IntKind.i64) (by omega), by first | rfl | trivial⟩
    case round =>
      obtain ⟨rfl, hw⟩ := hrel
      have HW := Lib.hid hw
      clear hw
      go_wp2
      go_ret
      exact ⟨retB (by rw [HT.out]), 0, HW.out⟩
  rcases hrd with h1 | ⟨b, off, rfl, hc⟩
  · omega
  have HC := Lib.hid (show ∀ i, i < n → w.cell? ⟨b, off + i, none⟩ = some (.int .i64 (getI zs i)) from hc)
  have h1 : 1 ≤ n := by omega
  clear hc h hz hr h0
  go_enter Tryd.func104, Tryd.ntmps104
  go_wp2
  go_loopw [3] (fun i wr => ∃ k q : Nat, k + 1 ≤ n ∧ i = .int .i64 k ∧ (∀ j, k < j → j < n → ascAt zs j = true) ∧ wr = w.drewN q) (fun i _ => (intOf i).toNat)
  case atStart => exact ⟨n - 1, 0, by omega, by first | rfl | exact congrArg (Value.int IntKind.i64) (by omega), fun j h1 h2 => by omega, rfl⟩
  case round =>
    obtain ⟨k, q, hk, rfl, hs, hw⟩ := hrel
    have HS := Lib.hid hs
    have HW := Lib.hid hw
    clear hs hw
    by_cases hlt : 0 < k
    · have hcx : wr.cell? ⟨b, off + k, none⟩ = some (.int .i64 (getI zs k)) := by rw [HW.out]; exact HC.out k (by omega)
      have hcy : wr.cell? ⟨b, off + (k - 1), none⟩ = some (.int .i64 (getI zs (k - 1))) := by rw [HW.out]; exact HC.out (k - 1) (by omega)
      obtain ⟨u, hu⟩ : ∃ u, getI zs k = u := ⟨_, rfl⟩
      obtain ⟨v, hv⟩ : ∃ v, getI zs (k - 1) = v := ⟨_, rfl⟩
      rw [hu] at hcx
      rw [hv] at hcy
      have hk1 : ((k : Int) - 1) = ((k - 1 : Nat) : Int) := by omega
      by_cases hlt2 : u < v
      · have HD := Lib.hid (show decide (u < v) = true from decide_eq_true hlt2)
        have HF := Lib.hid (show r = false by
          rw [← HR.out]; unfold ascI
          refine allTo_no (i := k) (by rw [HZ.out]; omega) ?_
          have e : k = (k - 1) + 1 := by omega
          rw [e]; exact ascAt_n (by rw [← e, hu, hv]; exact hlt2))
        clear hu hv hlt2
        go_wp2
        go_quiet (first | (go_at_call_of 114 (Value.int .i64 u); exact Calls.quiet_of_same (c_cmpLess_sm u v _ HD.out)))
        go_wp2
        go_ret
        exact ⟨retB (by rw [HF.out]), _, by rw [HW.out, World.drewN_drewN]⟩
      · have HD := Lib.hid (show decide (u < v) = false from decide_eq_false hlt2)
        have HN := Lib.hid (show ∀ j, k - 1 < j → j < n → ascAt zs j = true from fun j h1 h2 => by
          by_cases e : j = k
          · subst e
            have e : j = (j - 1) + 1 := by omega
            rw [e]; exact ascAt_s (by rw [← e, hu, hv]; omega)
          · exact HS.out j (by omega) h2)
        clear hu hv hlt2
        go_wp2
        go_quiet (first | (go_at_call_of 114 (Value.int .i64 u); exact Calls.quiet_of_same (c_cmpLess_sm u v _ HD.out)))
        go_wp2
        go_roundw
        case rel => exact ⟨k - 1, _, by omega, by first | go_num | rfl, HN.out, by rw [HW.out, World.drewN_drewN]⟩
        case measure => simp [intOf]; omega
    · obtain rfl : k = 0 := by omega
      have HT := Lib.hid (show r = true by
        rw [← HR.out]; unfold ascI
        exact allTo_yes fun i hi => by
          by_cases e : i = 0
          · subst e; exact ascAt_0 zs
          · exact HS.out i (by omega) (by rw [← HZ.out]; exact hi))
      go_wp2
      go_ret
      exact ⟨retB (by rw [HT.out]), _, HW.out⟩
theorem c_impl_areTimes (a : Option Addr) (n cap : Nat) (ts : List Int) (w : World) {r : Bool} (hr : (decide (n ≤ 128) && timesB ts) = r) (hn : n ≤ 1048576) (h : Reads w a n (ints ts)) :
    Calls Tryd.prog 86 #[.slice a n cap] w fun e w' => e = .returned (.bool r) ∧ ∃ q, w' = w.drewN q := by
  have H := Lib.hid h
  have hn' : (n : Int) ≤ 1048576 := by omega
  have HN := Lib.hid hn
  have HM := Lib.hid (show n ≤ maxLen by unfold maxLen; omega)
  clear h
  by_cases h1 : n ≤ 128
  · have h1' : (n : Int) ≤ 128 := by omega
    rw [decide_eq_true h1, Bool.true_and, timesB_split] at hr
    cases hu : upB 1000000 ts
    · have HU := Lib.hid hu
      have HF := Lib.hid (show r = false by rw [← hr, hu]; rfl)
      clear hr hu h1
      go_enter Tryd.func86, Tryd.ntmps86
      go_wp2_with (go_at_call 80; refine (c_impl_areUpTo _ _ _ ts 1000000 _ (by decide) (by decide) HM.out HU.out H.out).mono ?_; rintro e w' ⟨rfl, rfl⟩)
      go_ret
      exact ⟨retB (by rw [HF.out]), 0, rfl⟩
    · have HU := Lib.hid hu
      have HF := Lib.hid (show ascI ts = r by rw [← hr, hu]; rfl)
      clear hr hu h1
      go_enter Tryd.func86, Tryd.ntmps86
      go_wp2_with (first | (go_at_call 80; refine (c_impl_areUpTo _ _ _ ts 1000000 _ (by decide) (by decide) HM.out HU.out H.out).mono ?_; rintro e w' ⟨rfl, rfl⟩) | (go_at_call 104; refine (c_IsSortedI _ _ _ ts _ HF.out HN.out H.out).mono ?_; rintro e w' ⟨rfl, q, rfl⟩))
      go_ret
      exact ⟨rfl, _, rfl⟩
  · have h1' : (128 : Int) < (n : Int) := by omega
    have HF := Lib.hid (show r = false by rw [← hr, decide_eq_false h1]; rfl)
    clear hr h1
    go_enter Tryd.func86, Tryd.ntmps86
    go_wp2
    go_ret
    exact ⟨retB (by rw [HF.out]), 0, rfl⟩
set_option maxHeartbeats 2000000 in
theorem c_impl_areSizes (a : Option Addr) (n cap m : Nat) (zs : List Int) (w : World) {r : Bool} (hr : sizesB m zs = r) (hn : n ≤ 1048576) (hm1 : 1 ≤ m) (hm : m ≤ 17) (h : Reads w a n (ints zs)) :
    Calls Tryd.prog 87 #[.slice a n cap, .int .i64 m] w fun e w' => e = .returned (.bool r) ∧ ∃ q, w' = w.drewN q := by
  obtain ⟨hz, hrd⟩ := h.int
  have HZ := Lib.hid hz
  have HR := Lib.hid hrd
  have HB := Lib.hid hr
  have hn' : (n : Int) ≤ 1048576 := by omega
  have hm1' : (1 : Int) ≤ (m : Int) := by omega
  have hm' : (m : Int) ≤ 17 := by omega
  clear h hz hrd hr
  go_enter Tryd.func87, Tryd.ntmps87
  go_wp2
  go_loopw [9] (fun i wr => ∃ k q : Nat, k ≤ n ∧ i = .int .i64 k ∧ wr = w.drewN q ∧ ∀ j, j < k → zAt m zs j = true) (fun i _ => n - (intOf i).toNat)
  case atStart => exact ⟨0, 0, Nat.zero_le _, rfl, rfl, fun j hj => absurd hj (Nat.not_lt_zero _)⟩
  case round =>
    obtain ⟨k, q, hk, rfl, hw, hall⟩ := hrel
    have HA := Lib.hid hall
    have HW := Lib.hid hw
    clear hall hw
    by_cases hlt : k < n
    · rcases HR.out with h0 | ⟨b, off, rfl, hc⟩
      · omega
      have c1 : wr.cell? ⟨b, off + k, none⟩ = some (.int .i64 (getI zs k)) := by rw [HW.out]; exact hc k hlt
      obtain ⟨x, hx⟩ : ∃ x, getI zs k = x := ⟨_, rfl⟩
      have HX := Lib.hid hx
      rw [hx] at c1
      have hkn : (k : Int) < (n : Int) := by omega
      by_cases q1 : x < 1
      · have HF := Lib.hid (show r = false by rw [← HB.out]; refine allTo_no (i := k) (by rw [HZ.out]; exact hlt) ?_; unfold zAt; rw [HX.out, powB_out (.inl q1)]; rfl)
        clear hc hx
        go_wp2
        go_ret
        exact ⟨retB (by rw [HF.out]), _, HW.out⟩
      have q1' : 1 ≤ x := by omega
      by_cases q2 : 1048576 < x
      · have HF := Lib.hid (show r = false by rw [← HB.out]; refine allTo_no (i := k) (by rw [HZ.out]; exact hlt) ?_; unfold zAt; rw [HX.out, powB_out (.inr q2)]; rfl)
        clear hc hx q1
        go_wp2
        go_ret
        exact ⟨retB (by rw [HF.out]), _, HW.out⟩
      have q2' : x ≤ 1048576 := by omega
      have hbp := and_powB q1' q2'
      obtain ⟨y, hy⟩ : ∃ y, bits .and .i64 x (x - 1) = y := ⟨_, rfl⟩
      cases hp : powB x
      · rw [hp, hy] at hbp
        have hy1 : ¬ bits .and .i64 x (x - 1) = 0 := by rw [hy]; simpa using hbp
        have hy2 : (bits .and .i64 x (x - 1) == 0) = false := by rw [hy]; exact hbp
        have hy3 : (bits .and .i64 x (x - 1) != 0) = true := by rw [hy]; simpa using hbp
        have HF := Lib.hid (show r = false by rw [← HB.out]; refine allTo_no (i := k) (by rw [HZ.out]; exact hlt) ?_; unfold zAt; rw [HX.out, hp]; rfl)
        clear hc hx q1 q2 hbp hp hy
        go_wp2
        go_ret
        exact ⟨retB (by rw [HF.out]), _, HW.out⟩
      rw [hp, hy] at hbp
      have hy1 : bits .and .i64 x (x - 1) = 0 := by rw [hy]; simpa using hbp
      have hy2 : (bits .and .i64 x (x - 1) == 0) = true := by rw [hy]; exact hbp
      have hy3 : (bits .and .i64 x (x - 1) != 0) = false := by rw [hy]; simpa using hbp
      have HP := Lib.hid hp
      clear hbp hp hy q1 q2
      by_cases k0 : k = 0
      · subst k0
        rw [Nat.add_zero] at c1
        have HN := Lib.hid (show ∀ j, j < 0 + 1 → zAt m zs j = true from fun j hj => by
          obtain rfl : j = 0 := by omega
          unfold zAt; rw [HX.out, HP.out, dAt_0, sAt_lo (by omega)]; rfl)
        clear hc hx
        go_wp2
        first | go_roundw | (go_quiet (fail); go_wp2; go_roundw)
        case rel => exact ⟨0 + 1, _, by omega, by go_num, HW.out, HN.out⟩
        case measure => simp [intOf]; omega
      obtain ⟨p, rfl⟩ : ∃ p, k = p + 1 := ⟨k - 1, by omega⟩
      have c2 : wr.cell? ⟨b, off + p, none⟩ = some (.int .i64 (getI zs p)) := by rw [HW.out]; exact hc p (by omega)
      obtain ⟨z, hzz⟩ : ∃ z, getI zs p = z := ⟨_, rfl⟩
      have HZZ := Lib.hid hzz
      rw [hzz] at c2
      have i2 : ((p + 1 : Nat) : Int) - 1 = (p : Int) := by omega
      have i1 : (1 : Int) ≤ ((p + 1 : Nat) : Int) := by omega
      by_cases q4 : z < x
      · have HF := Lib.hid (show r = false by rw [← HB.out]; refine allTo_no (i := p + 1) (by rw [HZ.out]; exact hlt) ?_; unfold zAt; rw [HX.out, HP.out, dAt_n (by rw [HX.out, HZZ.out]; exact q4)]; rfl)
        clear hc hx hzz
        go_wp2
        first | (go_ret; exact ⟨retB (by rw [HF.out]), _, HW.out⟩) | (go_quiet (fail); go_wp2; go_ret; exact ⟨retB (by rw [HF.out]), _, by rw [HW.out, World.drewN_drewN]⟩)
      have q4' : x ≤ z := by omega
      have HDS := Lib.hid (dAt_s (zs := zs) (i := p) (by rw [HX.out, HZZ.out]; exact q4'))
      by_cases q5 : p + 1 < m
      · have q5' : ((p + 1 : Nat) : Int) < (m : Int) := by omega
        have HN := Lib.hid (show ∀ j, j < p + 1 + 1 → zAt m zs j = true from fun j hj => by
          by_cases e : j = p + 1
          · subst e; unfold zAt; rw [HX.out, HP.out, HDS.out, sAt_lo q5]; rfl
          · exact HA.out j (by omega))
        clear hc hx hzz q4
        go_wp2
        first | go_roundw | (go_quiet (fail); go_wp2; go_roundw)
        case rel => exact ⟨p + 1 + 1, _, by omega, by go_num, by first | exact HW.out | rw [HW.out, World.drewN_drewN], HN.out⟩
        case measure => simp [intOf]; omega
      obtain ⟨d, hd⟩ : ∃ d, p + 1 = m + d := ⟨p + 1 - m, by omega⟩
      have c3 : wr.cell? ⟨b, off + d, none⟩ = some (.int .i64 (getI zs d)) := by rw [HW.out]; exact hc d (by omega)
      obtain ⟨v, hv⟩ : ∃ v, getI zs d = v := ⟨_, rfl⟩
      have HV := Lib.hid hv
      rw [hv] at c3
      have q5' : (m : Int) ≤ ((p + 1 : Nat) : Int) := by omega
      have i3 : (p : Int) + 1 - (m : Int) = (d : Int) := by omega
      have i5 : (m : Int) ≤ (p : Int) + 1 := by omega
      have i6 : ¬ (p : Int) + 1 < (m : Int) := by omega
      have i7 : (0 : Int) ≤ (p : Int) + 1 - (m : Int) := by omega
      have HD := Lib.hid (show p + 1 - m = d by omega)
      have i4 : (d : Int) < (n : Int) := by omega
      by_cases q6 : x = v
      · have HF := Lib.hid (show r = false by rw [← HB.out]; refine allTo_no (i := p + 1) (by rw [HZ.out]; exact hlt) ?_; unfold zAt; rw [sAt_no (by omega) (by rw [HD.out, HX.out, HV.out]; exact q6)]; simp)
        subst q6
        have e1 : (x == x) = true := by simp
        clear hc hx hzz hv hd q4 q5
        go_wp2
        first | (go_ret; exact ⟨retB (by rw [HF.out]), _, HW.out⟩) | (go_quiet (fail); go_wp2; go_ret; exact ⟨retB (by rw [HF.out]), _, by rw [HW.out, World.drewN_drewN]⟩)
      · have e1 : (x == v) = false := by simpa using q6
        have e2 : (v == x) = false := by simpa using (fun e : v = x => q6 e.symm)
        have e3 : ¬ v = x := fun e => q6 e.symm
        have HN := Lib.hid (show ∀ j, j < p + 1 + 1 → zAt m zs j = true from fun j hj => by
          by_cases e : j = p + 1
          · subst e; unfold zAt; rw [HX.out, HP.out, HDS.out, sAt_ne (by rw [HD.out, HX.out, HV.out]; exact q6)]; rfl
          · exact HA.out j (by omega))
        clear hc hx hzz hv hd q4 q5
        go_wp2
        first | go_roundw | (go_quiet (fail); go_wp2; go_roundw)
        case rel => exact ⟨p + 1 + 1, _, by omega, by go_num, by first | exact HW.out | rw [HW.out, World.drewN_drewN], HN.out⟩
        case measure => simp [intOf]; omega
    · obtain rfl : k = n := by omega
      have HT := Lib.hid (show r = true by rw [← HB.out]; exact allTo_yes (by rw [HZ.out]; exact HA.out))
      go_wp2
      go_ret
      exact ⟨retB (by rw [HT.out]), _, HW.out⟩
theorem c_impl_mostEqual (L P : Int) (a1 : Option Addr) (n1 cap1 : Nat) (a2 : Option Addr) (n2 cap2 : Nat) (w : World) {v : Int} (hv : P + 1 = v) (h1 : 1 ≤ P) (h2 : P ≤ 16) :
    Calls Tryd.prog 88 #[.agg #[.int .i64 L, .int .i64 P, .slice a1 n1 cap1, .slice a2 n2 cap2]] w fun e w' => e = .returned (.int .i64 v) ∧ Ext w w' := by
  have HV := Lib.hid hv
  clear hv
  go_enter Tryd.func88, Tryd.ntmps88
  go_wp2
  go_ret
  exact ⟨by rw [HV.out]; rfl, by first | exact Ext.alloc _ _ | (repeat (first | assumption | exact Ext.refl _ | (with_reducible refine Ext.stepS ?_ (by first | exact Nat.le_refl _ | (simp; done) | (simp; omega)) _) | (with_reducible refine Ext.stepN ?_ _) | (with_reducible refine Ext.stepD ?_) | (with_reducible refine Ext.stepA ?_ _)))⟩
set_option maxHeartbeats 4000000 in
theorem c_impl_ValidWindow (L P : Int) (a1 : Option Addr) (cap1 : Nat) (ts : List Int) (a2 : Option Addr) (cap2 : Nat) (zs : List Int) (w : World) {r : Bool} (hr : winB L P ts zs = r) (hl : ts.length + zs.length ≤ 1048576) (h : Reads2 w a1 ts.length (ints ts) a2 zs.length (ints zs)) :
    Calls Tryd.prog 57 #[.agg #[.int .i64 L, .int .i64 P, .slice a1 ts.length cap1, .slice a2 zs.length cap2]] w fun e w' => e = .returned (.bool r) ∧ Ext w w' := by
  have H := Lib.hid h
  have hl1 : (ts.length : Int) ≤ 1048576 := by omega
  have hl2 : (zs.length : Int) ≤ 1048576 := by omega
  have HL1 := Lib.hid (show ts.length ≤ 1048576 by omega)
  have HL2 := Lib.hid (show zs.length ≤ 1048576 by omega)
  have BX := Lib.hid (Box.alloc w #[.int .i64 L, .int .i64 P, .slice a1 ts.length cap1, .slice a2 zs.length cap2] 45)
  have X0 := Lib.hid (Ext.alloc w (.cells #[.int .i64 L, .int .i64 P, .slice a1 ts.length cap1, .slice a2 zs.length cap2] 45))
  clear h hl
  by_cases h1 : L < 1
  · have HR := Lib.hid (show r = false by rw [← hr]; exact winB_dim (fun d => by have := d.l1; omega))
    clear hr
    go_enter Tryd.func57, Tryd.ntmps57
    go_wp2
    go_ret
    exact ⟨retB (by rw [HR.out]), by (repeat (first | assumption | exact Ext.refl _ | (with_reducible refine Ext.stepS ?_ (by first | exact Nat.le_refl _ | (simp; done) | (simp; omega)) _) | (with_reducible refine Ext.stepN ?_ _) | (with_reducible refine Ext.stepD ?_) | (with_reducible refine Ext.stepA ?_ _)))⟩
  have h1' : 1 ≤ L := by omega
  clear h1
  by_cases h2 : 1000000 < L
  · have HR := Lib.hid (show r = false by rw [← hr]; exact winB_dim (fun d => by have := d.l2; omega))
    clear hr
    go_enter Tryd.func57, Tryd.ntmps57
    go_wp2
    go_ret
    exact ⟨retB (by rw [HR.out]), by (repeat (first | assumption | exact Ext.refl _ | (with_reducible refine Ext.stepS ?_ (by first | exact Nat.le_refl _ | (simp; done) | (simp; omega)) _) | (with_reducible refine Ext.stepN ?_ _) | (with_reducible refine Ext.stepD ?_) | (with_reducible refine Ext.stepA ?_ _)))⟩
  have h2' : L ≤ 1000000 := by omega
  clear h2
  by_cases h3 : P < 1
  · have HR := Lib.hid (show r = false by rw [← hr]; exact winB_dim (fun d => by have := d.p1; omega))
    clear hr
    go_enter Tryd.func57, Tryd.ntmps57
    go_wp2
    go_ret
    exact ⟨retB (by rw [HR.out]), by (repeat (first | assumption | exact Ext.refl _ | (with_reducible refine Ext.stepS ?_ (by first | exact Nat.le_refl _ | (simp; done) | (simp; omega)) _) | (with_reducible refine Ext.stepN ?_ _) | (with_reducible refine Ext.stepD ?_) | (with_reducible refine Ext.stepA ?_ _)))⟩
  have h3' : 1 ≤ P := by omega
  clear h3
  by_cases h4 : 16 < P
  · have HR := Lib.hid (show r = false by rw [← hr]; exact winB_dim (fun d => by have := d.p2; omega))
    clear hr
    go_enter Tryd.func57, Tryd.ntmps57
    go_wp2
    go_ret
    exact ⟨retB (by rw [HR.out]), by (repeat (first | assumption | exact Ext.refl _ | (with_reducible refine Ext.stepS ?_ (by first | exact Nat.le_refl _ | (simp; done) | (simp; omega)) _) | (with_reducible refine Ext.stepN ?_ _) | (with_reducible refine Ext.stepD ?_) | (with_reducible refine Ext.stepA ?_ _)))⟩
  have h4' : P ≤ 16 := by omega
  clear h4
  obtain ⟨b0, b1, b2, b3⟩ := BX.out.four
  cases ht : (decide (ts.length ≤ 128) && timesB ts)
  · have HT := Lib.hid ht
    have HF := Lib.hid (show r = false by
      rw [← hr]
      by_cases hd : WinD L P ts.length zs.length
      · rw [winB_yes hd]; rw [decide_eq_true hd.hn, Bool.true_and] at ht; rw [ht]; rfl
      · exact winB_dim hd)
    clear hr ht
    go_enter Tryd.func57, Tryd.ntmps57
    go_upto_region 3 with fail
    go_quiet (first | (go_at_call 86; exact Calls.quiet_of (c_impl_areTimes _ _ _ ts _ HT.out HL1.out (H.out.r1.on (by (repeat (first | assumption | exact Ext.refl _ | (with_reducible refine Ext.stepS ?_ (by first | exact Nat.le_refl _ | (simp; done) | (simp; omega)) _) | (with_reducible refine Ext.stepN ?_ _) | (with_reducible refine Ext.stepD ?_) | (with_reducible refine Ext.stepA ?_ _))))))))
    go_wp2
    go_ret
    exact ⟨retB (by rw [HF.out]), X0.out.stepN _⟩
  have HT := Lib.hid ht
  rw [Bool.and_eq_true, decide_eq_true_eq] at ht
  by_cases h6 : zs.length = ts.length
  rotate_left
  · have HF := Lib.hid (show r = false by rw [← hr]; exact winB_dim (fun d => h6 d.hk))
    have h6a : ((zs.length : Int) == (ts.length : Int)) = false := by simp; omega
    have h6c : ¬ (zs.length : Int) = (ts.length : Int) := by omega
    clear hr ht h6
    go_enter Tryd.func57, Tryd.ntmps57
    go_upto_region 3 with fail
    go_quiet (first | (go_at_call 86; exact Calls.quiet_of (c_impl_areTimes _ _ _ ts _ HT.out HL1.out (H.out.r1.on (by (repeat (first | assumption | exact Ext.refl _ | (with_reducible refine Ext.stepS ?_ (by first | exact Nat.le_refl _ | (simp; done) | (simp; omega)) _) | (with_reducible refine Ext.stepN ?_ _) | (with_reducible refine Ext.stepD ?_) | (with_reducible refine Ext.stepA ?_ _))))))))
    go_wp2
    go_ret
    exact ⟨retB (by rw [HF.out]), X0.out.stepN _⟩
  have h6a : ((zs.length : Int) == (ts.length : Int)) = true := by simp; omega
  have HF := Lib.hid (show sizesB (P + 1).toNat zs = r by rw [← hr, winB_yes (WinD.mk h1' h2' h3' h4' ht.1 h6), ht.2]; rfl)
  obtain ⟨m, hm⟩ : ∃ m : Nat, P + 1 = (m : Int) := ⟨(P + 1).toNat, by omega⟩
  have HM := Lib.hid hm
  have HMM := Lib.hid (show (P + 1).toNat = m by omega)
  have HM1 := Lib.hid (show 1 ≤ m by omega)
  have HM2 := Lib.hid (show m ≤ 17 by omega)
  have HSB := Lib.hid (show sizesB m zs = r by rw [← HMM.out]; exact HF.out)
  have HP1 := Lib.hid h3'
  have HP2 := Lib.hid h4'
  clear hr ht h6 hm
  go_enter Tryd.func57, Tryd.ntmps57
  go_upto_region 3 with fail
  obtain ⟨u, hu⟩ : ∃ u, w.alloc (.cells #[.int .i64 L, .int .i64 P, .slice a1 ts.length cap1, .slice a2 zs.length cap2] 45) = u := ⟨_, rfl⟩
  have XU := Lib.hid (show Ext w u by rw [← hu]; exact X0.out)
  have BU := Lib.hid (show Box u w.heap.size 45 #[.int .i64 L, .int .i64 P, .slice a1 ts.length cap1, .slice a2 zs.length cap2] by rw [← hu]; exact BX.out)
  clear b0 b1 b2 b3
  rw [hu]
  clear hu
  obtain ⟨b0, b1, b2, b3⟩ := BU.out.four
  first | (go_region_held3 (fun w' => w'.cell? ⟨w.heap.size, 0, none⟩ = some (.int .i64 L) ∧ w'.cell? ⟨w.heap.size, 1, none⟩ = some (.int .i64 P) ∧ w'.cell? ⟨w.heap.size, 2, none⟩ = some (.slice a1 ts.length cap1) ∧ w'.cell? ⟨w.heap.size, 3, none⟩ = some (.slice a2 zs.length cap2)) (first | exact KA | go_keep) (first | (go_at_call 86; refine (c_impl_areTimes _ _ _ ts _ HT.out HL1.out (H.out.r1.on (XU.out.trans (by (repeat (first | assumption | exact Ext.refl _ | (with_reducible refine Ext.stepS ?_ (by first | exact Nat.le_refl _ | (simp; done) | (simp; omega)) _) | (with_reducible refine Ext.stepN ?_ _) | (with_reducible refine Ext.stepD ?_) | (with_reducible refine Ext.stepA ?_ _))))))).mono ?_; rintro e v1 ⟨rfl, q1, hq1⟩; have x1 := (show Ext _ v1 by rw [hq1]; exact Ext.drewN _ _); have EA : Ext u v1 := Ext.trans (by (repeat (first | assumption | exact Ext.refl _ | (with_reducible refine Ext.stepS ?_ (by first | exact Nat.le_refl _ | (simp; done) | (simp; omega)) _) | (with_reducible refine Ext.stepN ?_ _) | (with_reducible refine Ext.stepD ?_) | (with_reducible refine Ext.stepA ?_ _)))) x1; have KA := (BU.out.on EA).four; clear x1 hq1) | (go_at_call 88; refine (c_impl_mostEqual L P _ _ _ _ _ _ _ HM.out HP1.out HP2.out).mono ?_; rintro e v2 ⟨rfl, x2⟩; have EB : Ext u v2 := Ext.trans (by (repeat (first | assumption | exact Ext.refl _ | (with_reducible refine Ext.stepS ?_ (by first | exact Nat.le_refl _ | (simp; done) | (simp; omega)) _) | (with_reducible refine Ext.stepN ?_ _) | (with_reducible refine Ext.stepD ?_) | (with_reducible refine Ext.stepA ?_ _)))) x2; have KA := (BU.out.on EB).four; clear x2) | (go_at_call 87; refine (c_impl_areSizes _ _ _ m zs _ HSB.out HL2.out HM1.out HM2.out (H.out.r2.on (XU.out.trans (by (repeat (first | assumption | exact Ext.refl _ | (with_reducible refine Ext.stepS ?_ (by first | exact Nat.le_refl _ | (simp; done) | (simp; omega)) _) | (with_reducible refine Ext.stepN ?_ _) | (with_reducible refine Ext.stepD ?_) | (with_reducible refine Ext.stepA ?_ _))))))).mono ?_; rintro e v3 ⟨rfl, q3, hq3⟩; have x3 := (show Ext _ v3 by rw [hq3]; exact Ext.drewN _ _); have EC : Ext u v3 := Ext.trans (by (repeat (first | assumption | exact Ext.refl _ | (with_reducible refine Ext.stepS ?_ (by first | exact Nat.le_refl _ | (simp; done) | (simp; omega)) _) | (with_reducible refine Ext.stepN ?_ _) | (with_reducible refine Ext.stepD ?_) | (with_reducible refine Ext.stepA ?_ _)))) x3; have KA := (BU.out.on EC).four; clear x3 hq3))) | fail
  all_goals
    go_wp2
    go_ret
    exact ⟨rfl, XU.out.trans EC⟩

set_option maxHeartbeats 1000000 in
theorem c_spec_l04PowerW (n : Int) (w : World) {r : Bool} (h : powB n = r) :
    Calls Tryd.prog 74 #[.int .i64 n, .int .i64 1, .int .i64 1048576] w fun e w' => e = .returned (.bool r) ∧ w' = w := by
  have HB := Lib.hid h
  clear h
  go_enter Tryd.func74, Tryd.ntmps74
  go_wp2
  go_loop [7] (fun i => ∃ k q : Nat, k ≤ 21 ∧ 2 ^ k = q ∧ 1 ≤ q ∧ q ≤ 2097152 ∧ i = .int .i64 q ∧ ∀ j, j < k → n ≠ ((2 ^ j : Nat) : Int)) (fun i => 4194304 - (intOf i).toNat)
  case atStart => exact ⟨0, 1, by omega, rfl, by omega, by omega, rfl, fun j hj => absurd hj (Nat.not_lt_zero _)⟩
  case round =>
    obtain ⟨k, q, hk, hq, hq1, hq2, rfl, hall⟩ := hrel
    have HA := Lib.hid hall
    have HQ := Lib.hid hq
    by_cases hlt : k < 21
    · have hqh : q ≤ 1048576 := by rw [← hq]; exact (pow21 hlt).2
      clear hall hq
      by_cases he : n = (q : Int)
      · have HR := Lib.hid (show r = true by rw [← HB.out]; exact powB_mk hlt (by rw [HQ.out]; exact he))
        subst he
        go_wp2
        go_ret
        exact ⟨retB HR.out.symm, rfl⟩
      · have he1 : ((q : Int) == n) = false := by simp; omega
        have he2 : ¬ (q : Int) = n := by omega
        have hqh' : (q : Int) ≤ 1048576 := by omega
        have HK1 := Lib.hid (show 2 ^ (k + 1) = 2 * q by rw [Nat.pow_succ, HQ.out]; omega)
        have HN := Lib.hid (show ∀ j, j < k + 1 → n ≠ ((2 ^ j : Nat) : Int) from fun j hj => by
          by_cases e : j = k
          · subst e; rw [HQ.out]; exact he
          · exact HA.out j (by omega))
        clear he
        go_wp2
        go_round
        case rel => exact ⟨k + 1, 2 * q, by omega, HK1.out, by omega, by omega, by go_num, HN.out⟩
        case measure => simp [intOf]; omega
    · obtain rfl : k = 21 := by omega
      have e21 : q = 2097152 := by rw [← hq]
      have HR := Lib.hid (show r = false by rw [← HB.out]; exact powB_no HA.out)
      subst e21
      clear hall hq
      go_wp2
      go_ret
      exact ⟨retB HR.out.symm, rfl⟩
set_option maxRecDepth 100000 in
set_option maxHeartbeats 8000000 in
theorem c_spec_l06Is (qb : Nat) (L P : Int) (a1 : Option Addr) (cap1 : Nat) (ts : List Int) (a2 : Option Addr) (cap2 : Nat) (zs : List Int) (w : World) {r : Bool} (hr : winB L P ts zs = r) (hl : ts.length + zs.length ≤ 1048576) (h : Reads2 w a1 ts.length (ints ts) a2 zs.length (ints zs)) (hq : Box w qb 45 #[.int .i64 L, .int .i64 P, .slice a1 ts.length cap1, .slice a2 zs.length cap2]) :
    Calls Tryd.prog 55 #[.pointer (some ⟨qb, 0, none⟩)] w fun e w' => e = .returned (.bool r) ∧ ∃ q, w' = w.drewN q := by
  have H := Lib.hid h
  have hl1 : (ts.length : Int) ≤ 1048576 := by omega
  have hl2 : (zs.length : Int) ≤ 1048576 := by omega
  have BX := Lib.hid hq
  obtain ⟨b0, b1, b2, b3⟩ := hq.four
  clear h hl hq
  cases h1 : inB 1 L 1000000
  · have HF := Lib.hid (show r = false by rw [← hr]; exact winB_dim (fun d => by rw [inB_isW.2 ⟨d.l1, d.l2⟩] at h1; cases h1))
    have HI1 := Lib.hid h1
    clear hr h1
    go_enter Tryd.func55, Tryd.ntmps55
    go_upto_region 1 with fail
    go_quiet (first | (go_at_call_of 75 (Value.int .i64 1000000); exact Calls.quiet_of_same (c_l00In_q L 1 1000000 _ HI1.out)))
    go_wp2
    go_ret
    exact ⟨retB (by rw [HF.out]), _, rfl⟩
  have HI1 := Lib.hid h1
  cases h2 : inB 1 P 16
  · have HF := Lib.hid (show r = false by rw [← hr]; exact winB_dim (fun d => by rw [inB_isW.2 ⟨d.p1, d.p2⟩] at h2; cases h2))
    have HI2 := Lib.hid h2
    clear hr h1 h2
    go_enter Tryd.func55, Tryd.ntmps55
    go_upto_region 1 with fail
    go_quiet (first | (go_at_call_of 75 (Value.int .i64 16); exact Calls.quiet_of_same (c_l00In_q P 1 16 _ HI2.out)) | (go_at_call_of 75 (Value.int .i64 1000000); exact Calls.quiet_of_same (c_l00In_q L 1 1000000 _ HI1.out)))
    go_wp2
    go_ret
    exact ⟨retB (by rw [HF.out]), _, rfl⟩
  have HI2 := Lib.hid h2
  by_cases h5 : 128 < ts.length
  · have HF := Lib.hid (show r = false by rw [← hr]; exact winB_dim (fun d => by have := d.hn; omega))
    have h5' : (128 : Int) < (ts.length : Int) := by omega
    clear hr h1 h2 h5
    go_enter Tryd.func55, Tryd.ntmps55
    go_upto_region 1 with fail
    go_quiet (first | (go_at_call_of 75 (Value.int .i64 16); exact Calls.quiet_of_same (c_l00In_q P 1 16 _ HI2.out)) | (go_at_call_of 75 (Value.int .i64 1000000); exact Calls.quiet_of_same (c_l00In_q L 1 1000000 _ HI1.out)))
    go_wp2
    go_ret
    exact ⟨retB (by rw [HF.out]), _, rfl⟩
  have h5' : (ts.length : Int) ≤ 128 := by omega
  by_cases h6 : ¬ zs.length = ts.length
  · have HF := Lib.hid (show r = false by rw [← hr]; exact winB_dim (fun d => h6 d.hk))
    have h6a : ((zs.length : Int) == (ts.length : Int)) = false := by simp; omega
    have h6b : ((zs.length : Int) != (ts.length : Int)) = true := by simp; omega
    clear hr h1 h2 h5 h6
    go_enter Tryd.func55, Tryd.ntmps55
    go_upto_region 1 with fail
    go_quiet (first | (go_at_call_of 75 (Value.int .i64 16); exact Calls.quiet_of_same (c_l00In_q P 1 16 _ HI2.out)) | (go_at_call_of 75 (Value.int .i64 1000000); exact Calls.quiet_of_same (c_l00In_q L 1 1000000 _ HI1.out)))
    go_wp2
    go_ret
    exact ⟨retB (by rw [HF.out]), _, rfl⟩
  have h6 : zs.length = ts.length := Classical.byContradiction h6
  have h6a : ((zs.length : Int) == (ts.length : Int)) = true := by simp; omega
  have h6b : ((zs.length : Int) != (ts.length : Int)) = false := by simp; omega
  have HWD := Lib.hid (WinD.mk (inB_isW.1 h1).1 (inB_isW.1 h1).2 (inB_isW.1 h2).1 (inB_isW.1 h2).2 (show ts.length ≤ 128 by omega) h6)
  have HB := Lib.hid (show (timesB ts && sizesB (P + 1).toNat zs) = r by rw [← hr]; exact (winB_yes HWD.out).symm)
  have HZL := Lib.hid h6
  have HC1 := Lib.hid H.out.r1.int.2
  have HC2 := Lib.hid H.out.r2.int.2
  have hp1 := (inB_isW.1 h2).1
  have hp2 := (inB_isW.1 h2).2
  obtain ⟨m, hm⟩ : ∃ m : Nat, P = (m : Int) := ⟨P.toNat, by omega⟩
  have HMM := Lib.hid (show (P + 1).toNat = m + 1 by omega)
  have HB2 := Lib.hid (show (timesB ts && sizesB (m + 1) zs) = r by rw [← HMM.out]; exact HB.out)
  have HPM := Lib.hid hm
  have hzn : (zs.length : Int) = (ts.length : Int) := by omega
  clear hr h1 h2 h5 h6 hm HB
  go_enter Tryd.func55, Tryd.ntmps55
  go_upto_region 1 with fail
  go_quiet (first | (go_at_call_of 75 (Value.int .i64 16); exact Calls.quiet_of_same (c_l00In_q P 1 16 _ HI2.out)) | (go_at_call_of 75 (Value.int .i64 1000000); exact Calls.quiet_of_same (c_l00In_q L 1 1000000 _ HI1.out)))
  go_wp2_with fail
  clear b0 b1 b2 b3 h6a h6b hzn
  go_loopw [3, 4] (fun ct i wr => ∃ k c q : Nat, k ≤ ts.length ∧ i = .int .i64 k ∧ ct = .int .i64 c ∧ c ≤ k ∧ (k = 0 → c = 0) ∧ (∀ p, k = p + 1 → c = runAt zs p) ∧ wr = w.drewN q ∧ ∀ j, j < k → tAt ts j = true ∧ zAt (m + 1) zs j = true) (fun _ i _ => ts.length - (intOf i).toNat)
  case atStart => exact ⟨0, 0, _, Nat.zero_le _, rfl, rfl, Nat.le_refl _, fun _ => rfl, fun p hp => by omega, rfl, fun j hj => absurd hj (Nat.not_lt_zero _)⟩
  case round =>
    obtain ⟨k, c, q, hk, rfl, rfl, hck, hc0, hcr, hw, hall⟩ := hrel
    have HA := Lib.hid hall
    have HW := Lib.hid hw
    have HCR := Lib.hid hcr
    have HC0 := Lib.hid hc0
    clear hall hw hcr hc0
    obtain ⟨b0, b1, b2, b3⟩ := (BX.out.on (show Ext w wr by rw [HW.out]; exact Ext.drewN w q)).four
    by_cases hlt : k < ts.length
    · have hkv : (k : Int) < (ts.length : Int) := by omega
      have hkz : (k : Int) < (zs.length : Int) := by have := HZL.out; omega
      rcases HC1.out with h0 | ⟨tb, tf, rfl, hc1⟩
      · omega
      rcases HC2.out with h0 | ⟨sb, sf, rfl, hc2⟩
      · have := HZL.out; omega
      have c1 : wr.cell? ⟨tb, tf + k, none⟩ = some (.int .i64 (getI ts k)) := by rw [HW.out]; exact hc1 k hlt
      have c2 : wr.cell? ⟨sb, sf + k, none⟩ = some (.int .i64 (getI zs k)) := by rw [HW.out]; exact hc2 k (by have := HZL.out; omega)
      obtain ⟨x, hx⟩ : ∃ x, getI ts k = x := ⟨_, rfl⟩
      obtain ⟨y, hy⟩ : ∃ y, getI zs k = y := ⟨_, rfl⟩
      have HX := Lib.hid hx
      have HY := Lib.hid hy
      rw [hx] at c1
      rw [hy] at c2
      clear hx hy
      cases htx : inB 0 x 1000000
      · have HTX := Lib.hid htx
        have HF := Lib.hid (show r = false by rw [← HB2.out, show timesB ts = false from allTo_no (i := k) hlt (by unfold tAt; rw [HX.out, htx]; rfl)]; rfl)
        clear htx hc1 hc2
        go_wp2
        go_quiet (first | (go_at_call 85; exact Calls.quiet_of_same (c_spec_l06Time x _ HTX.out)))
        go_wp2
        first | go_ret | (go_quiet (fail); go_wp2; go_ret) | (go_quiet (fail); go_wp2; go_quiet (fail); go_wp2; go_ret) | (go_quiet (fail); go_wp2; go_quiet (fail); go_wp2; go_quiet (fail); go_wp2; go_ret)
        exact ⟨retB (by rw [HF.out]), _, by first | exact HW.out | (rw [HW.out, World.drewN_drewN]; done) | (rw [HW.out, World.drewN_drewN, World.drewN_drewN]; done) | (rw [HW.out, World.drewN_drewN, World.drewN_drewN, World.drewN_drewN]; done) | (rw [HW.out, World.drewN_drewN, World.drewN_drewN, World.drewN_drewN, World.drewN_drewN]; done)⟩
      have HTX := Lib.hid htx
      clear htx
      by_cases k0 : k = 0
      · subst k0
        obtain rfl : c = 0 := HC0.out rfl
        rw [Nat.add_zero] at c1 c2
        cases hpy : powB y
        · have HPY := Lib.hid hpy
          have HF := Lib.hid (show r = false by rw [← HB2.out, show sizesB (m + 1) zs = false from allTo_no (i := 0) (by rw [HZL.out]; exact hlt) (by unfold zAt; rw [HY.out, hpy]; rfl)]; simp)
          clear hpy hc1 hc2
          go_wp2
          go_quiet (first | (go_at_call 85; exact Calls.quiet_of_same (c_spec_l06Time x _ HTX.out)) | (go_at_call 74; exact Calls.quiet_of_same (c_spec_l04PowerW y _ HPY.out)))
          go_wp2
          first | go_ret | (go_quiet (fail); go_wp2; go_ret) | (go_quiet (fail); go_wp2; go_quiet (fail); go_wp2; go_ret) | (go_quiet (fail); go_wp2; go_quiet (fail); go_wp2; go_quiet (fail); go_wp2; go_ret)
          exact ⟨retB (by rw [HF.out]), _, by first | exact HW.out | (rw [HW.out, World.drewN_drewN]; done) | (rw [HW.out, World.drewN_drewN, World.drewN_drewN]; done) | (rw [HW.out, World.drewN_drewN, World.drewN_drewN, World.drewN_drewN]; done) | (rw [HW.out, World.drewN_drewN, World.drewN_drewN, World.drewN_drewN, World.drewN_drewN]; done)⟩
        · have HPY := Lib.hid hpy
          have HRN := Lib.hid (show 1 = runAt zs 0 from rfl)
          have HN := Lib.hid (show ∀ j, j < 0 + 1 → tAt ts j = true ∧ zAt (m + 1) zs j = true from fun j hj => by
            obtain rfl : j = 0 := by omega
            unfold tAt zAt; rw [HX.out, HTX.out, ascAt_0, HY.out, HPY.out, dAt_0, sAt_lo (by omega)]; exact ⟨rfl, rfl⟩)
          have hP1 : (1 : Int) ≤ P + 1 := by omega
          clear hpy hc1 hc2
          go_wp2
          go_quiet (first | (go_at_call 85; exact Calls.quiet_of_same (c_spec_l06Time x _ HTX.out)) | (go_at_call 74; exact Calls.quiet_of_same (c_spec_l04PowerW y _ HPY.out)))
          go_wp2
          first | go_roundw | (go_quiet (fail); go_wp2; first | go_roundw | (go_quiet (fail); go_wp2; go_roundw))
          case rel => exact ⟨0 + 1, 1, _, by omega, by go_num, by go_num, by omega, fun h => by omega, fun p' hp' => by obtain rfl : p' = 0 := (by omega); exact HRN.out, by first | (rw [HW.out, World.drewN_drewN]; done) | (rw [HW.out, World.drewN_drewN, World.drewN_drewN]; done) | (rw [HW.out, World.drewN_drewN, World.drewN_drewN, World.drewN_drewN]), HN.out⟩
          case measure => simp [intOf]; omega
      obtain ⟨p, rfl⟩ : ∃ p, k = p + 1 := ⟨k - 1, by omega⟩
      have d1 : wr.cell? ⟨tb, tf + p, none⟩ = some (.int .i64 (getI ts p)) := by rw [HW.out]; exact hc1 p (by omega)
      have d2 : wr.cell? ⟨sb, sf + p, none⟩ = some (.int .i64 (getI zs p)) := by rw [HW.out]; exact hc2 p (by have := HZL.out; omega)
      obtain ⟨x', hx'⟩ : ∃ x', getI ts p = x' := ⟨_, rfl⟩
      obtain ⟨y', hy'⟩ : ∃ y', getI zs p = y' := ⟨_, rfl⟩
      have HX' := Lib.hid hx'
      have HY' := Lib.hid hy'
      rw [hx'] at d1
      rw [hy'] at d2
      have HCP := Lib.hid (HCR.out p rfl)
      have i2 : ((p + 1 : Nat) : Int) - 1 = (p : Int) := by omega
      have i1 : (0 : Int) < ((p + 1 : Nat) : Int) := by omega
      have i3 : (p : Int) < (ts.length : Int) := by omega
      have i4 : (p : Int) < (zs.length : Int) := by have := HZL.out; omega
      have i5 : (c : Int) ≤ 128 := by omega
      clear hx' hy' hc1 hc2 k0
      by_cases g1 : x < x'
      · have HF := Lib.hid (show r = false by rw [← HB2.out, show timesB ts = false from allTo_no (i := p + 1) hlt (by unfold tAt; rw [HX.out, HTX.out, ascAt_n (by rw [HX.out, HX'.out]; exact g1)]; rfl)]; rfl)
        go_wp2
        go_quiet (first | (go_at_call 85; exact Calls.quiet_of_same (c_spec_l06Time x _ HTX.out)))
        go_wp2
        first | go_ret | (go_quiet (fail); go_wp2; go_ret) | (go_quiet (fail); go_wp2; go_quiet (fail); go_wp2; go_ret) | (go_quiet (fail); go_wp2; go_quiet (fail); go_wp2; go_quiet (fail); go_wp2; go_ret)
        exact ⟨retB (by rw [HF.out]), _, by first | exact HW.out | (rw [HW.out, World.drewN_drewN]; done) | (rw [HW.out, World.drewN_drewN, World.drewN_drewN]; done) | (rw [HW.out, World.drewN_drewN, World.drewN_drewN, World.drewN_drewN]; done) | (rw [HW.out, World.drewN_drewN, World.drewN_drewN, World.drewN_drewN, World.drewN_drewN]; done)⟩
      have g1' : x' ≤ x := by omega
      have g1d : decide (x < x') = false := decide_eq_false g1
      cases hpy : powB y
      · have HPY := Lib.hid hpy
        have HF := Lib.hid (show r = false by rw [← HB2.out, show sizesB (m + 1) zs = false from allTo_no (i := p + 1) (by rw [HZL.out]; exact hlt) (by unfold zAt; rw [HY.out, hpy]; rfl)]; simp)
        clear hpy
        go_wp2
        go_quiet (first | (go_at_call 85; exact Calls.quiet_of_same (c_spec_l06Time x _ HTX.out)) | (go_at_call 74; exact Calls.quiet_of_same (c_spec_l04PowerW y _ HPY.out)))
        go_wp2
        first | go_ret | (go_quiet (fail); go_wp2; go_ret) | (go_quiet (fail); go_wp2; go_quiet (fail); go_wp2; go_ret) | (go_quiet (fail); go_wp2; go_quiet (fail); go_wp2; go_quiet (fail); go_wp2; go_ret)
        exact ⟨retB (by rw [HF.out]), _, by first | exact HW.out | (rw [HW.out, World.drewN_drewN]; done) | (rw [HW.out, World.drewN_drewN, World.drewN_drewN]; done) | (rw [HW.out, World.drewN_drewN, World.drewN_drewN, World.drewN_drewN]; done) | (rw [HW.out, World.drewN_drewN, World.drewN_drewN, World.drewN_drewN, World.drewN_drewN]; done)⟩
      have HPY := Lib.hid hpy
      clear hpy
      by_cases g2 : y' < y
      · have HF := Lib.hid (show r = false by rw [← HB2.out, show sizesB (m + 1) zs = false from allTo_no (i := p + 1) (by rw [HZL.out]; exact hlt) (by unfold zAt; rw [HY.out, HPY.out, dAt_n (by rw [HY.out, HY'.out]; exact g2)]; rfl)]; simp)
        go_wp2
        go_quiet (first | (go_at_call 85; exact Calls.quiet_of_same (c_spec_l06Time x _ HTX.out)) | (go_at_call 74; exact Calls.quiet_of_same (c_spec_l04PowerW y _ HPY.out)))
        go_wp2
        first | go_ret | (go_quiet (fail); go_wp2; go_ret) | (go_quiet (fail); go_wp2; go_quiet (fail); go_wp2; go_ret) | (go_quiet (fail); go_wp2; go_quiet (fail); go_wp2; go_quiet (fail); go_wp2; go_ret)
        exact ⟨retB (by rw [HF.out]), _, by first | exact HW.out | (rw [HW.out, World.drewN_drewN]; done) | (rw [HW.out, World.drewN_drewN, World.drewN_drewN]; done) | (rw [HW.out, World.drewN_drewN, World.drewN_drewN, World.drewN_drewN]; done) | (rw [HW.out, World.drewN_drewN, World.drewN_drewN, World.drewN_drewN, World.drewN_drewN]; done)⟩
      have g2' : y ≤ y' := by omega
      have g2d : decide (y' < y) = false := decide_eq_false g2
      have HAS := Lib.hid (ascAt_s (ts := ts) (i := p) (by rw [HX.out, HX'.out]; exact g1'))
      have HDS := Lib.hid (dAt_s (zs := zs) (i := p) (by rw [HY.out, HY'.out]; exact g2'))
      have HDA := Lib.hid (show ∀ j, j < p + 1 + 1 → dAt zs j = true from fun j hj => by
        by_cases e : j = p + 1
        · subst e; exact HDS.out
        · have := (HA.out j (by omega)).2; unfold zAt at this; simp only [Bool.and_eq_true] at this; exact this.2.1)
      have HRO := Lib.hid (run_over (zs := zs) (m := m + 1) (i := p + 1) (by omega) HDA.out)
      by_cases g3 : y = y'
      · have HRN := Lib.hid (show c + 1 = runAt zs (p + 1) by rw [runAt_eq (by rw [HY.out, HY'.out]; exact g3), ← HCP.out])
        have g3' : ¬ y < y' := by omega
        by_cases g4 : m + 1 < c + 1
        · have g4' : P + 1 < (c : Int) + 1 := by have := HPM.out; omega
          have HF := Lib.hid (show r = false by rw [← HB2.out, show sizesB (m + 1) zs = false from allTo_no (i := p + 1) (by rw [HZL.out]; exact hlt) (by unfold zAt; rw [HRO.out.1 (by rw [← HRN.out]; exact g4)]; simp)]; simp)
          clear g3 g4
          go_wp2
          go_quiet (first | (go_at_call 85; exact Calls.quiet_of_same (c_spec_l06Time x _ HTX.out)) | (go_at_call 74; exact Calls.quiet_of_same (c_spec_l04PowerW y _ HPY.out)))
          go_wp2
          first | go_ret | (go_quiet (fail); go_wp2; go_ret) | (go_quiet (fail); go_wp2; go_quiet (fail); go_wp2; go_ret) | (go_quiet (fail); go_wp2; go_quiet (fail); go_wp2; go_quiet (fail); go_wp2; go_ret)
          exact ⟨retB (by rw [HF.out]), _, by first | exact HW.out | (rw [HW.out, World.drewN_drewN]; done) | (rw [HW.out, World.drewN_drewN, World.drewN_drewN]; done) | (rw [HW.out, World.drewN_drewN, World.drewN_drewN, World.drewN_drewN]; done) | (rw [HW.out, World.drewN_drewN, World.drewN_drewN, World.drewN_drewN, World.drewN_drewN]; done)⟩
        have g4' : (c : Int) + 1 ≤ P + 1 := by have := HPM.out; omega
        have HSA := Lib.hid (show sAt (m + 1) zs (p + 1) = true by cases hs : sAt (m + 1) zs (p + 1); exact absurd (HRO.out.2 hs) (by rw [← HRN.out]; omega); rfl)
        have HN := Lib.hid (show ∀ j, j < p + 1 + 1 → tAt ts j = true ∧ zAt (m + 1) zs j = true from fun j hj => by
          by_cases e : j = p + 1
          · subst e; unfold tAt zAt; rw [HX.out, HTX.out, HAS.out, HY.out, HPY.out, HDS.out, HSA.out]; exact ⟨rfl, rfl⟩
          · exact HA.out j (by omega))
        clear g3 g4
        go_wp2
        go_quiet (first | (go_at_call 85; exact Calls.quiet_of_same (c_spec_l06Time x _ HTX.out)) | (go_at_call 74; exact Calls.quiet_of_same (c_spec_l04PowerW y _ HPY.out)))
        go_wp2
        first | go_roundw | (go_quiet (fail); go_wp2; first | go_roundw | (go_quiet (fail); go_wp2; go_roundw))
        case rel => exact ⟨p + 1 + 1, c + 1, _, by omega, by go_num, by go_num, by omega, fun h => by omega, fun p' hp' => by obtain rfl : p' = p + 1 := (by omega); exact HRN.out, by first | (rw [HW.out, World.drewN_drewN]; done) | (rw [HW.out, World.drewN_drewN, World.drewN_drewN]; done) | (rw [HW.out, World.drewN_drewN, World.drewN_drewN, World.drewN_drewN]), HN.out⟩
        case measure => simp [intOf]; omega
      · have HRN := Lib.hid (show 1 = runAt zs (p + 1) by rw [runAt_ne (by rw [HY.out, HY'.out]; exact g3)])
        have g3' : y < y' := by omega
        have hP1 : (1 : Int) ≤ P + 1 := by omega
        have HSA := Lib.hid (show sAt (m + 1) zs (p + 1) = true by cases hs : sAt (m + 1) zs (p + 1); exact absurd (HRO.out.2 hs) (by rw [← HRN.out]; omega); rfl)
        have HN := Lib.hid (show ∀ j, j < p + 1 + 1 → tAt ts j = true ∧ zAt (m + 1) zs j = true from fun j hj => by
          by_cases e : j = p + 1
          · subst e; unfold tAt zAt; rw [HX.out, HTX.out, HAS.out, HY.out, HPY.out, HDS.out, HSA.out]; exact ⟨rfl, rfl⟩
          · exact HA.out j (by omega))
        clear g3
        go_wp2
        go_quiet (first | (go_at_call 85; exact Calls.quiet_of_same (c_spec_l06Time x _ HTX.out)) | (go_at_call 74; exact Calls.quiet_of_same (c_spec_l04PowerW y _ HPY.out)))
        go_wp2
        first | go_roundw | (go_quiet (fail); go_wp2; first | go_roundw | (go_quiet (fail); go_wp2; go_roundw))
        case rel => exact ⟨p + 1 + 1, 1, _, by omega, by go_num, by go_num, by omega, fun h => by omega, fun p' hp' => by obtain rfl : p' = p + 1 := (by omega); exact HRN.out, by first | (rw [HW.out, World.drewN_drewN]; done) | (rw [HW.out, World.drewN_drewN, World.drewN_drewN]; done) | (rw [HW.out, World.drewN_drewN, World.drewN_drewN, World.drewN_drewN]), HN.out⟩
        case measure => simp [intOf]; omega
    · obtain rfl : k = ts.length := by omega
      have HF := Lib.hid (show r = true by rw [← HB2.out, show timesB ts = true from allTo_yes fun j hj => (HA.out j hj).1, show sizesB (m + 1) zs = true from allTo_yes fun j hj => (HA.out j (by rw [← HZL.out]; exact hj)).2]; rfl)
      go_wp2
      go_ret
      exact ⟨retB (by rw [HF.out]), _, HW.out⟩
end Go.Proofs.YtgejfeedcphfkaaDoor
