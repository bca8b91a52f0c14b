/- Tops: valid ones, on both sides. -/
import Derived.Test.YtfmjohpmfcmpoabTps
import Derived.Test.YtfmjohpmfcmpoabTpa
import Derived.Deep.QuietTactic
import Derived.BigQuiet
import Derived.Deep.RegionWith
namespace Go.Proofs.Ytfmjohpmfcmpoab
open Go.ChangeShapes Go.WideShapes Go.ChangeAt Go.RowKit
set_option linter.unusedVariables false
theorem topsB_dims {R : Int} {ks cs es : List Int} (h : ¬ RoomOk R ks.length cs.length es.length) : topsB R ks cs es = false := by
  cases hb : roomB R ks.length cs.length es.length
  · exact topsB_room hb
  · exact absurd (room_ok hb) h
theorem c_l00In_w (k lo hi : Int) (w : World) {b : Bool} (h : inB lo k hi = b) : Calls Try.prog 77 #[.int .i64 k, .int .i64 lo, .int .i64 hi] w fun e w' => e = .returned (.bool b) ∧ w = w' := by
  subst h; exact (c_l00In k lo hi w).mono (by rintro e w' ⟨rfl, rfl⟩; exact ⟨rfl, rfl⟩)
theorem c_l00In_q (k lo hi : Int) (w : World) {b : Bool} (h : inB lo k hi = b) : Calls Try.prog 77 #[.int .i64 k, .int .i64 lo, .int .i64 hi] w fun e w' => e = .returned (.bool b) ∧ w' = w := by
  subst h; exact (c_l00In k lo hi w).mono (by rintro e w' ⟨rfl, rfl⟩; exact ⟨rfl, rfl⟩)
theorem c_spec_l02Key_q (k : Int) (w : World) {b : Bool} (h : keyB k = b) : Calls Try.prog 70 #[.int .i64 k] w fun e w' => e = .returned (.bool b) ∧ w' = w := by
  subst h; exact (c_spec_l02Key k w).mono (by rintro e w' ⟨rfl, rfl⟩; exact ⟨rfl, rfl⟩)
theorem c_impl_AreKeys_q (a : Option Addr) (n cap : Nat) (zs : List Int) (w : World) {r : Bool} (hr : keysB zs = r) (hm : n ≤ maxLen) (h : Reads w a n (ints zs)) : Calls Try.prog 79 #[.slice a n cap] w fun e w' => e = .returned (.bool r) ∧ w = w' := by
  subst hr; exact c_impl_AreKeys a n cap zs w hm h
theorem ret_i3 {a b : Int} (h : a = b) : Ending.returned (.int .i64 a) = .returned (.int .i64 b) := by rw [h]
set_option maxHeartbeats 1000000 in
theorem c_Index (a : Option Addr) (n cap : Nat) (zs : List Int) (x : Int) (w : World) {v : Int} (hv : idxZ zs x = v) (hm : n ≤ maxLen) (h : Reads w a n (ints zs)) :
    Calls Try.prog 134 #[.slice a n cap, .int .i64 x] w fun e w' => e = .returned (.int .i64 v) ∧ w' = w := by
  unfold maxLen at hm
  obtain ⟨hz, hrd⟩ := h.int
  have HZ := Lib.hid hz
  have HR := Lib.hid hrd
  have HV := Lib.hid hv
  clear h hz hrd hv
  go_enter Try.func134, Try.ntmps134
  go_wp2
  go_loop [8] (fun i => ∃ k : Nat, k ≤ n ∧ i = .int .i64 k ∧ ∀ j, j < k → getI zs j ≠ x) (fun i => n - (intOf i).toNat)
  case atStart => exact ⟨0, Nat.zero_le _, rfl, fun j hj => absurd hj (Nat.not_lt_zero _)⟩
  case round =>
    obtain ⟨k, hk, rfl, hall⟩ := hrel
    have HA := Lib.hid hall
    clear hall
    by_cases hlt : k < n
    · rcases HR.out with h0 | ⟨b, off, rfl, hc⟩
      · omega
      have c1 : w.cell? ⟨b, off + k, none⟩ = some (.int .i64 (getI zs k)) := hc k hlt
      obtain ⟨y, hy⟩ : ∃ y, getI zs k = y := ⟨_, rfl⟩
      have HY := Lib.hid hy
      rw [hy] at c1
      clear hc hy
      by_cases hyx : y = x
      · subst hyx
        have HT := Lib.hid (show v = (k : Int) by rw [← HV.out]; exact idxZ_is (by rw [HZ.out]; exact hlt) HY.out HA.out)
        go_wp2
        go_ret
        exact ⟨ret_i3 (by rw [HT.out]), rfl⟩
      · have e1 : (y == x) = false := by simpa using hyx
        have e2 : (x == y) = false := by simpa using (fun e : x = y => hyx e.symm)
        have e3 : ¬ x = y := fun e => hyx e.symm
        have HN := Lib.hid (show ∀ j, j < k + 1 → getI zs j ≠ x from fun j hj => by
          by_cases e : j = k
          · subst e; rw [HY.out]; exact hyx
          · exact HA.out j (by omega))
        go_wp2
        go_round
        case rel => exact ⟨k + 1, by omega, by go_num, HN.out⟩
        case measure => simp [intOf]; omega
    · obtain rfl : k = n := by omega
      have HT := Lib.hid (show v = -1 by rw [← HV.out]; exact idxZ_none (by rw [HZ.out]; exact HA.out))
      go_wp2
      go_ret
      exact ⟨ret_i3 (by rw [HT.out]), rfl⟩
set_option maxHeartbeats 1000000 in
theorem c_spec_l03Find (a : Option Addr) (n cap : Nat) (zs : List Int) (x : Int) (w : World) {v : Int} (hv : idxZ zs x = v) (hm : n ≤ maxLen) (h : Reads w a n (ints zs)) :
    Calls Try.prog 102 #[.slice a n cap, .int .i64 x] w fun e w' => e = .returned (.int .i64 v) ∧ w' = w := by
  unfold maxLen at hm
  obtain ⟨hz, hrd⟩ := h.int
  have HZ := Lib.hid hz
  have HR := Lib.hid hrd
  have HV := Lib.hid hv
  clear h hz hrd hv
  go_enter Try.func102, Try.ntmps102
  go_wp2
  go_loop [8] (fun i => ∃ k : Nat, k ≤ n ∧ i = .int .i64 k ∧ ∀ j, j < k → getI zs j ≠ x) (fun i => n - (intOf i).toNat)
  case atStart => exact ⟨0, Nat.zero_le _, rfl, fun j hj => absurd hj (Nat.not_lt_zero _)⟩
  case round =>
    obtain ⟨k, hk, rfl, hall⟩ := hrel
    have HA := Lib.hid hall
    clear hall
    by_cases hlt : k < n
    · rcases HR.out with h0 | ⟨b, off, rfl, hc⟩
      · omega
      have c1 : w.cell? ⟨b, off + k, none⟩ = some (.int .i64 (getI zs k)) := hc k hlt
      obtain ⟨y, hy⟩ : ∃ y, getI zs k = y := ⟨_, rfl⟩
      have HY := Lib.hid hy
      rw [hy] at c1
      clear hc hy
      by_cases hyx : y = x
      · subst hyx
        have HT := Lib.hid (show v = (k : Int) by rw [← HV.out]; exact idxZ_is (by rw [HZ.out]; exact hlt) HY.out HA.out)
        go_wp2
        go_ret
        exact ⟨ret_i3 (by rw [HT.out]), rfl⟩
      · have e1 : (y == x) = false := by simpa using hyx
        have e2 : (x == y) = false := by simpa using (fun e : x = y => hyx e.symm)
        have e3 : ¬ x = y := fun e => hyx e.symm
        have HN := Lib.hid (show ∀ j, j < k + 1 → getI zs j ≠ x from fun j hj => by
          by_cases e : j = k
          · subst e; rw [HY.out]; exact hyx
          · exact HA.out j (by omega))
        go_wp2
        go_round
        case rel => exact ⟨k + 1, by omega, by go_num, HN.out⟩
        case measure => simp [intOf]; omega
    · obtain rfl : k = n := by omega
      have HT := Lib.hid (show v = -1 by rw [← HV.out]; exact idxZ_none (by rw [HZ.out]; exact HA.out))
      go_wp2
      go_ret
      exact ⟨ret_i3 (by rw [HT.out]), rfl⟩
set_option maxHeartbeats 1000000 in
theorem c_spec_l00Has (a : Option Addr) (n cap : Nat) (zs : List Int) (x : Int) (w : World) {v : Bool} (hv : hasL zs x = v) (hm : n ≤ maxLen) (h : Reads w a n (ints zs)) :
    Calls Try.prog 82 #[.slice a n cap, .int .i64 x] w fun e w' => e = .returned (.bool v) ∧ w' = w := by
  unfold maxLen at hm
  obtain ⟨hz, hrd⟩ := h.int
  have HZ := Lib.hid hz
  have HR := Lib.hid hrd
  have HV := Lib.hid hv
  clear h hz hrd hv
  go_enter Try.func82, Try.ntmps82
  go_wp2
  go_loop [5] (fun i => ∃ k : Nat, k ≤ n ∧ i = .int .i64 k ∧ ∀ j, j < k → getI zs j ≠ x) (fun i => n - (intOf i).toNat)
  case atStart => exact ⟨0, Nat.zero_le _, rfl, fun j hj => absurd hj (Nat.not_lt_zero _)⟩
  case round =>
    obtain ⟨k, hk, rfl, hall⟩ := hrel
    have HA := Lib.hid hall
    clear hall
    by_cases hlt : k < n
    · rcases HR.out with h0 | ⟨b, off, rfl, hc⟩
      · omega
      have c1 : w.cell? ⟨b, off + k, none⟩ = some (.int .i64 (getI zs k)) := hc k hlt
      obtain ⟨y, hy⟩ : ∃ y, getI zs k = y := ⟨_, rfl⟩
      have HY := Lib.hid hy
      rw [hy] at c1
      clear hc hy
      by_cases hyx : y = x
      · subst hyx
        have HT := Lib.hid (show v = true by rw [← HV.out]; exact hasL_is (by rw [HZ.out]; exact hlt) HY.out)
        go_wp2
        go_ret
        exact ⟨retB (by rw [HT.out]), rfl⟩
      · have e1 : (y == x) = false := by simpa using hyx
        have e2 : (x == y) = false := by simpa using (fun e : x = y => hyx e.symm)
        have e3 : ¬ x = y := fun e => hyx e.symm
        have HN := Lib.hid (show ∀ j, j < k + 1 → getI zs j ≠ x from fun j hj => by
          by_cases e : j = k
          · subst e; rw [HY.out]; exact hyx
          · exact HA.out j (by omega))
        go_wp2
        go_round
        case rel => exact ⟨k + 1, by omega, by go_num, HN.out⟩
        case measure => simp [intOf]; omega
    · obtain rfl : k = n := by omega
      have HT := Lib.hid (show v = false by rw [← HV.out]; exact hasL_none (by rw [HZ.out]; exact HA.out))
      go_wp2
      go_ret
      exact ⟨retB (by rw [HT.out]), rfl⟩
theorem c_Contains (a : Option Addr) (n cap : Nat) (zs : List Int) (x : Int) (w : World) {v : Bool} (hv : hasL zs x = v) (hm : n ≤ maxLen) (h : Reads w a n (ints zs)) :
    Calls Try.prog 174 #[.slice a n cap, .int .i64 x] w fun e w' => e = .returned (.bool v) ∧ w' = w := by
  have H := Lib.hid h
  have HV := Lib.hid (hasL_idx zs x)
  obtain ⟨i, hi⟩ : ∃ i, idxZ zs x = i := ⟨_, rfl⟩
  have HI := Lib.hid hi
  clear h hi
  by_cases h0 : 0 ≤ i
  · have HT := Lib.hid (show v = true by rw [← hv, HV.out, HI.out]; exact decide_eq_true h0)
    clear hv
    go_enter Try.func174, Try.ntmps174
    go_wp2_with (go_at_call 134; refine (c_Index _ _ _ zs x _ HI.out hm H.out).mono ?_; rintro e w' ⟨rfl, rfl⟩)
    go_ret
    exact ⟨retB (by first | (rw [HT.out]; done) | (rw [HT.out]; rfl) | (rw [HT.out]; first | (simp; done) | (simp; omega))), rfl⟩
  · have HT := Lib.hid (show v = false by rw [← hv, HV.out, HI.out]; exact decide_eq_false h0)
    have h1 : i < 0 := by omega
    clear hv h0
    go_enter Try.func174, Try.ntmps174
    go_wp2_with (go_at_call 134; refine (c_Index _ _ _ zs x _ HI.out hm H.out).mono ?_; rintro e w' ⟨rfl, rfl⟩)
    go_ret
    exact ⟨retB (by first | (rw [HT.out]; done) | (rw [HT.out]; rfl) | (rw [HT.out]; first | (simp; done) | (simp; omega))), rfl⟩
set_option maxHeartbeats 1000000 in
theorem c_impl_areDifferent (a : Option Addr) (n cap : Nat) (zs : List Int) (w : World) {r : Bool} (hr : diffB zs = r) (hm : n ≤ 1048576) (hcap : n ≤ cap) (h : Reads w a n (ints zs)) :
    Calls Try.prog 132 #[.slice a n cap] w fun e w' => e = .returned (.bool r) ∧ w' = w := by
  obtain ⟨hz, hrd⟩ := h.int
  have H := Lib.hid h
  have HZ := Lib.hid hz
  have HR := Lib.hid hrd
  have HB := Lib.hid hr
  have hm' : (n : Int) ≤ 1048576 := by omega
  have hcap' : (n : Int) ≤ (cap : Int) := by omega
  clear h hz hrd hr
  go_enter Try.func132, Try.ntmps132
  go_wp2
  go_loop [7] (fun i => ∃ k : Nat, k ≤ n ∧ i = .int .i64 k ∧ ∀ j, j < k → (!hasL (zs.take j) (getI zs j)) = true) (fun i => n - (intOf i).toNat)
  case atStart => exact ⟨0, Nat.zero_le _, rfl, fun j hj => absurd hj (Nat.not_lt_zero _)⟩
  case round =>
    obtain ⟨k, hk, rfl, hall⟩ := hrel
    have HA := Lib.hid hall
    clear hall
    by_cases hlt : k < n
    · have HT := Lib.hid (H.out.take (i := k) (by omega))
      rcases HR.out with h0 | ⟨b, off, rfl, hc⟩
      · omega
      have c1 : w.cell? ⟨b, off + k, none⟩ = some (.int .i64 (getI zs k)) := hc k hlt
      obtain ⟨y, hy⟩ : ∃ y, getI zs k = y := ⟨_, rfl⟩
      have HY := Lib.hid hy
      rw [hy] at c1
      have kc1 : (k : Int) ≤ (cap : Int) := by omega
      have kc2 : (k : Int) < (cap : Int) := by omega
      have kc3 : k < cap := by omega
      have kc4 : ¬ cap = 0 := by omega
      have kc5 : k ≤ cap := by omega
      have HKM := Lib.hid (show k ≤ maxLen by unfold maxLen; omega)
      clear hc hy
      cases hh : hasL (zs.take k) y
      · have HH := Lib.hid hh
        have HN := Lib.hid (show ∀ j, j < k + 1 → (!hasL (zs.take j) (getI zs j)) = true from fun j hj => by
          by_cases e : j = k
          · subst e; rw [HY.out, hh]; rfl
          · exact HA.out j (by omega))
        clear hh
        go_wp2_with (go_at_call 174; refine (c_Contains _ _ _ (zs.take k) y _ HH.out HKM.out HT.out).mono ?_; rintro e w' ⟨rfl, rfl⟩)
        go_round
        case rel => exact ⟨k + 1, by omega, by go_num, HN.out⟩
        case measure => simp [intOf]; omega
      · have HH := Lib.hid hh
        have HF := Lib.hid (show r = false by rw [← HB.out]; exact allTo_no (i := k) (by rw [HZ.out]; exact hlt) (by rw [HY.out, hh]; rfl))
        clear hh
        go_wp2_with (go_at_call 174; refine (c_Contains _ _ _ (zs.take k) y _ HH.out HKM.out HT.out).mono ?_; rintro e w' ⟨rfl, rfl⟩)
        go_ret
        exact ⟨retB (by rw [HF.out]), rfl⟩
    · obtain rfl : k = n := by omega
      have HF := Lib.hid (show r = true by rw [← HB.out]; exact allTo_yes (by rw [HZ.out]; exact HA.out))
      go_wp2
      go_ret
      exact ⟨retB (by rw [HF.out]), rfl⟩
set_option maxHeartbeats 1000000 in
theorem c_impl_areCounts (a2 : Option Addr) (n cap2 : Nat) (cs : List Int) (a3 : Option Addr) (cap3 : Nat) (es : List Int) (w : World) {r : Bool} (hr : cntsB cs es = r) (hn : n ≤ 1048576) (h : Reads w a2 n (ints cs)) (h' : Reads w a3 n (ints es)) :
    Calls Try.prog 133 #[.slice a2 n cap2, .slice a3 n cap3] w fun e w' => e = .returned (.bool r) ∧ w' = w := by
  obtain ⟨hz, hr1⟩ := h.int
  obtain ⟨hz', hr2⟩ := h'.int
  have HZ := Lib.hid hz
  have H1 := Lib.hid hr1
  have H2 := Lib.hid hr2
  have HR := Lib.hid hr
  have hn' : (n : Int) ≤ 1048576 := by omega
  clear h h' hz hz' hr1 hr2 hr
  go_enter Try.func133, Try.ntmps133
  go_wp2
  go_loop [9] (fun i => ∃ k : Nat, k ≤ n ∧ i = .int .i64 k ∧ ∀ j, j < k → cntB (getI cs j) (getI es j) = true) (fun i => n - (intOf i).toNat)
  case atStart => exact ⟨0, Nat.zero_le _, rfl, fun j hj => absurd hj (Nat.not_lt_zero _)⟩
  case round =>
    obtain ⟨k, hk, rfl, hall⟩ := hrel
    have HA := Lib.hid hall
    clear hall
    by_cases hlt : k < n
    · rcases H1.out with h0 | ⟨gb, go, rfl, hc1⟩
      · omega
      rcases H2.out with h0 | ⟨sb, so, rfl, hc2⟩
      · omega
      have c1 : w.cell? ⟨gb, go + k, none⟩ = some (.int .i64 (getI cs k)) := hc1 k hlt
      have c2 : w.cell? ⟨sb, so + k, none⟩ = some (.int .i64 (getI es k)) := hc2 k hlt
      obtain ⟨x, hx⟩ : ∃ x, getI cs k = x := ⟨_, rfl⟩
      obtain ⟨y, hy⟩ : ∃ y, getI es k = y := ⟨_, rfl⟩
      have HX := Lib.hid hx
      have HY := Lib.hid hy
      have hkn : (k : Int) < (n : Int) := by omega
      rw [hx] at c1
      rw [hy] at c2
      clear hc1 hc2 hx hy
      by_cases q1 : x < 1
      · have HT := Lib.hid (show r = false by rw [← HR.out]; refine allTo_no (i := k) (by rw [HZ.out]; exact hlt) ?_; rw [HX.out, HY.out]; unfold cntB inB; simp; omega)
        go_wp2
        go_ret
        exact ⟨retB (by rw [HT.out]), rfl⟩
      by_cases q2 : 1000000000000 < x
      · have HT := Lib.hid (show r = false by rw [← HR.out]; refine allTo_no (i := k) (by rw [HZ.out]; exact hlt) ?_; rw [HX.out, HY.out]; unfold cntB inB; simp; omega)
        have q1' : 1 ≤ x := by omega
        go_wp2
        go_ret
        exact ⟨retB (by rw [HT.out]), rfl⟩
      by_cases q3 : y < 0
      · have HT := Lib.hid (show r = false by rw [← HR.out]; refine allTo_no (i := k) (by rw [HZ.out]; exact hlt) ?_; rw [HX.out, HY.out]; unfold cntB inB; simp; omega)
        have q1' : 1 ≤ x := by omega
        have q2' : x ≤ 1000000000000 := by omega
        go_wp2
        go_ret
        exact ⟨retB (by rw [HT.out]), rfl⟩
      by_cases q4 : x ≤ y
      · have HT := Lib.hid (show r = false by rw [← HR.out]; refine allTo_no (i := k) (by rw [HZ.out]; exact hlt) ?_; rw [HX.out, HY.out]; unfold cntB inB; simp; omega)
        have q1' : 1 ≤ x := by omega
        have q2' : x ≤ 1000000000000 := by omega
        have q3' : 0 ≤ y := by omega
        go_wp2
        go_ret
        exact ⟨retB (by rw [HT.out]), rfl⟩
      have q1' : 1 ≤ x := by omega
      have q2' : x ≤ 1000000000000 := by omega
      have q3' : 0 ≤ y := by omega
      have q4' : y < x := by omega
      have HN := Lib.hid (show ∀ j, j < k + 1 → cntB (getI cs j) (getI es j) = true from fun j hj => by
        by_cases e : j = k
        · subst e; rw [HX.out, HY.out]; unfold cntB; rw [inB_is.2 ⟨q1', q2'⟩, inB_is.2 ⟨q3', by omega⟩]; rfl
        · exact HA.out j (by omega))
      clear q1 q2 q3 q4
      go_wp2
      go_round
      case rel => exact ⟨k + 1, by omega, by go_num, HN.out⟩
      case measure => simp [intOf]; omega
    · obtain rfl : k = n := by omega
      have HT := Lib.hid (show r = true by rw [← HR.out]; exact allTo_yes (by rw [HZ.out]; exact HA.out))
      go_wp2
      go_ret
      exact ⟨retB (by rw [HT.out]), rfl⟩
theorem c_impl_areCounts2 (a2 : Option Addr) (n n' cap2 : Nat) (cs : List Int) (a3 : Option Addr) (cap3 : Nat) (es : List Int) (w : World) {r : Bool} (e : n' = n) (hr : cntsB cs es = r) (hn : n ≤ 1048576) (h : Reads w a2 n (ints cs)) (h' : Reads w a3 n' (ints es)) :
    Calls Try.prog 133 #[.slice a2 n cap2, .slice a3 n' cap3] w fun e w' => e = .returned (.bool r) ∧ w' = w := by
  subst e; exact c_impl_areCounts a2 n' cap2 cs a3 cap3 es w hr hn h h'
set_option maxHeartbeats 4000000 in
theorem c_impl_ValidTops (R : Int) (a1 : Option Addr) (cap1 : Nat) (ks : List Int) (a2 : Option Addr) (cap2 : Nat) (cs : List Int) (a3 : Option Addr) (cap3 : Nat) (es : List Int) (w : World) {r : Bool} (hr : topsB R ks cs es = r) (hl : ks.length + cs.length + es.length ≤ 1048576) (h : Reads3 w a1 ks.length (ints ks) a2 cs.length (ints cs) a3 es.length (ints es)) (hcap : ks.length ≤ cap1) :
    Calls Try.prog 72 #[.agg #[.int .i64 R, .slice a1 ks.length cap1, .slice a2 cs.length cap2, .slice a3 es.length cap3]] w fun e w' => e = .returned (.bool r) ∧ Ext w w' := by
  have H := Lib.hid h
  have hl1 : (ks.length : Int) ≤ 1048576 := by omega
  have hl2 : (cs.length : Int) ≤ 1048576 := by omega
  have hl3 : (es.length : Int) ≤ 1048576 := by omega
  have HM1 := Lib.hid (show ks.length ≤ maxLen by unfold maxLen; omega)
  have HL1 := Lib.hid (show ks.length ≤ 1048576 by omega)
  have HL2 := Lib.hid (show cs.length ≤ 1048576 by omega)
  have HCAP := Lib.hid hcap
  have BX := Lib.hid (Box.alloc w #[.int .i64 R, .slice a1 ks.length cap1, .slice a2 cs.length cap2, .slice a3 es.length cap3] 26)
  have X0 := Lib.hid (Ext.alloc w (.cells #[.int .i64 R, .slice a1 ks.length cap1, .slice a2 cs.length cap2, .slice a3 es.length cap3] 26))
  clear h hl hcap
  by_cases h1 : R < 1
  · have HR := Lib.hid (show r = false by rw [← hr]; exact topsB_dims (fun d => by have := d.lo; omega))
    clear hr 
    go_enter Try.func72, Try.ntmps72
    go_wp2
    go_ret
    exact ⟨retB (by rw [HR.out]), by (repeat (first | assumption | exact Ext.refl _ | (with_reducible refine Ext.stepS ?_ (by first | exact Nat.le_refl _ | (simp; done) | (simp; omega)) _) | (with_reducible refine Ext.stepN ?_ _) | (with_reducible refine Ext.stepD ?_) | (with_reducible refine Ext.stepA ?_ _)))⟩
  by_cases h2 : 32 < R
  · have HR := Lib.hid (show r = false by rw [← hr]; exact topsB_dims (fun d => by have := d.hi; omega))
    have h1' : 1 ≤ R := by omega
    clear hr 
    go_enter Try.func72, Try.ntmps72
    go_wp2
    go_ret
    exact ⟨retB (by rw [HR.out]), by (repeat (first | assumption | exact Ext.refl _ | (with_reducible refine Ext.stepS ?_ (by first | exact Nat.le_refl _ | (simp; done) | (simp; omega)) _) | (with_reducible refine Ext.stepN ?_ _) | (with_reducible refine Ext.stepD ?_) | (with_reducible refine Ext.stepA ?_ _)))⟩
  by_cases h5 : R < (ks.length : Int)
  · have HR := Lib.hid (show r = false by rw [← hr]; exact topsB_dims (fun d => by have := d.le; omega))
    have h1' : 1 ≤ R := by omega
    have h2' : R ≤ 32 := by omega
    clear hr 
    go_enter Try.func72, Try.ntmps72
    go_wp2
    go_ret
    exact ⟨retB (by rw [HR.out]), by (repeat (first | assumption | exact Ext.refl _ | (with_reducible refine Ext.stepS ?_ (by first | exact Nat.le_refl _ | (simp; done) | (simp; omega)) _) | (with_reducible refine Ext.stepN ?_ _) | (with_reducible refine Ext.stepD ?_) | (with_reducible refine Ext.stepA ?_ _)))⟩
  by_cases h6 : ¬ cs.length = ks.length
  · have HR := Lib.hid (show r = false by rw [← hr]; exact topsB_dims (fun d => by have := d.c; omega))
    have h1' : 1 ≤ R := by omega
    have h2' : R ≤ 32 := by omega
    have h5' : (ks.length : Int) ≤ R := by omega
    have h6a : ((cs.length : Int) == (ks.length : Int)) = false := by simp; omega
    have h6b : ((cs.length : Int) != (ks.length : Int)) = true := by simp; omega
    clear hr h6
    go_enter Try.func72, Try.ntmps72
    go_wp2
    go_ret
    exact ⟨retB (by rw [HR.out]), by (repeat (first | assumption | exact Ext.refl _ | (with_reducible refine Ext.stepS ?_ (by first | exact Nat.le_refl _ | (simp; done) | (simp; omega)) _) | (with_reducible refine Ext.stepN ?_ _) | (with_reducible refine Ext.stepD ?_) | (with_reducible refine Ext.stepA ?_ _)))⟩
  have h6 : cs.length = ks.length := Classical.byContradiction h6
  by_cases h7 : ¬ es.length = ks.length
  · have HR := Lib.hid (show r = false by rw [← hr]; exact topsB_dims (fun d => by have := d.e; omega))
    have h1' : 1 ≤ R := by omega
    have h2' : R ≤ 32 := by omega
    have h5' : (ks.length : Int) ≤ R := by omega
    have h6a : ((cs.length : Int) == (ks.length : Int)) = true := by simp; omega
    have h6b : ((cs.length : Int) != (ks.length : Int)) = false := by simp; omega
    have h7a : ((es.length : Int) == (ks.length : Int)) = false := by simp; omega
    have h7b : ((es.length : Int) != (ks.length : Int)) = true := by simp; omega
    clear hr h6 h7
    go_enter Try.func72, Try.ntmps72
    go_wp2
    go_ret
    exact ⟨retB (by rw [HR.out]), by (repeat (first | assumption | exact Ext.refl _ | (with_reducible refine Ext.stepS ?_ (by first | exact Nat.le_refl _ | (simp; done) | (simp; omega)) _) | (with_reducible refine Ext.stepN ?_ _) | (with_reducible refine Ext.stepD ?_) | (with_reducible refine Ext.stepA ?_ _)))⟩
  have h7 : es.length = ks.length := Classical.byContradiction h7
  have h1' : 1 ≤ R := by omega
  have h2' : R ≤ 32 := by omega
  have h5' : (ks.length : Int) ≤ R := by omega
  have h6a : ((cs.length : Int) == (ks.length : Int)) = true := by simp; omega
  have h6b : ((cs.length : Int) != (ks.length : Int)) = false := by simp; omega
  have h7a : ((es.length : Int) == (ks.length : Int)) = true := by simp; omega
  have h7b : ((es.length : Int) != (ks.length : Int)) = false := by simp; omega
  have HRM := Lib.hid (show roomB R ks.length cs.length es.length = true from (RoomOk.mk h1' h2' h5' h6 h7).b)
  have HS := Lib.hid (show Reads w a3 cs.length (ints es) by have := H.out.r3; rwa [show es.length = cs.length by omega] at this)
  have HLS := Lib.hid (show es.length = cs.length by omega)
  obtain ⟨b0, b1, b2, b3⟩ := BX.out.four
  clear h1 h2 h5 h6 h7
  cases hk : keysB ks
  · have HT := Lib.hid (show r = false by rw [← hr]; unfold topsB; rw [hk]; simp)
    have HK := Lib.hid hk
    clear hk hr
    go_enter Try.func72, Try.ntmps72
    go_wp2_with (go_at_call 79; refine (c_impl_AreKeys_q _ _ _ ks _ HK.out HM1.out (H.out.r1.on X0.out)).mono ?_; rintro e w' ⟨rfl, rfl⟩)
    go_ret
    exact ⟨retB (by rw [HT.out]), X0.out⟩
  cases hd : diffB ks
  · have HT := Lib.hid (show r = false by rw [← hr]; unfold topsB; rw [hd]; simp)
    have HK := Lib.hid hk
    have HD := Lib.hid hd
    clear hk hd hr
    go_enter Try.func72, Try.ntmps72
    go_wp2_with (first | (go_at_call 79; refine (c_impl_AreKeys_q _ _ _ ks _ HK.out HM1.out (H.out.r1.on X0.out)).mono ?_; rintro e w' ⟨rfl, rfl⟩) | (go_at_call 132; refine (c_impl_areDifferent _ _ _ ks _ HD.out HL1.out HCAP.out (H.out.r1.on X0.out)).mono ?_; rintro e w' ⟨rfl, rfl⟩))
    go_ret
    exact ⟨retB (by rw [HT.out]), X0.out⟩
  have HT := Lib.hid (show cntsB cs es = r by rw [← hr]; unfold topsB; rw [HRM.out, hk, hd]; rfl)
  have HK := Lib.hid hk
  have HD := Lib.hid hd
  clear hk hd hr
  go_enter Try.func72, Try.ntmps72
  go_wp2_with fail
  refine (c_impl_AreKeys_q _ _ _ ks _ HK.out HM1.out (H.out.r1.on X0.out)).mono ?_; rintro e w' ⟨rfl, rfl⟩
  go_wp2_with fail
  refine (c_impl_areDifferent _ _ _ ks _ HD.out HL1.out HCAP.out (H.out.r1.on X0.out)).mono ?_; rintro e w' ⟨rfl, rfl⟩
  go_wp2_with fail
  refine (c_impl_areCounts2 _ cs.length es.length _ cs _ _ es _ HLS.out HT.out HL2.out (H.out.r2.on X0.out) (H.out.r3.on X0.out)).mono ?_; rintro e w' ⟨rfl, rfl⟩
  go_wp2
  go_ret
  exact ⟨rfl, by first | exact X0.out | (have q := X0.out; rw [HLS.out] at q; exact q)⟩
set_option maxRecDepth 100000 in
set_option maxHeartbeats 8000000 in
theorem c_spec_l03Tops (qb : Nat) (R : Int) (a1 : Option Addr) (cap1 : Nat) (ks : List Int) (a2 : Option Addr) (cap2 : Nat) (cs : List Int) (a3 : Option Addr) (cap3 : Nat) (es : List Int) (w : World) {r : Bool} (hr : topsB R ks cs es = r) (hl : ks.length + cs.length + es.length ≤ 1048576) (h : Reads3 w a1 ks.length (ints ks) a2 cs.length (ints cs) a3 es.length (ints es)) (hcap : ks.length ≤ cap1) (hq : Box w qb 26 #[.int .i64 R, .slice a1 ks.length cap1, .slice a2 cs.length cap2, .slice a3 es.length cap3]) :
    Calls Try.prog 69 #[.pointer (some ⟨qb, 0, none⟩)] w fun e w' => e = .returned (.bool r) ∧ ∃ q, w' = w.drewN q := by
  have H := Lib.hid h
  have BX := Lib.hid hq
  have hl1 : (ks.length : Int) ≤ 1048576 := by omega
  have hl2 : (cs.length : Int) ≤ 1048576 := by omega
  have hl3 : (es.length : Int) ≤ 1048576 := by omega
  have hcap' : (ks.length : Int) ≤ (cap1 : Int) := by omega
  obtain ⟨b0, b1, b2, b3⟩ := BX.out.four
  clear h hq hl
  by_cases h1 : inB 1 R 32 = false
  · have HR := Lib.hid (show r = false by rw [← hr]; exact topsB_dims (fun d => by rw [inB_is.2 ⟨d.lo, d.hi⟩] at h1; cases h1))
    have HI1 := Lib.hid h1
    clear hr h1
    go_enter Try.func69, Try.ntmps69
    go_wp2_with (go_at_call 77; refine (c_l00In_w R 1 32 _ HI1.out).mono ?_; rintro e w' ⟨rfl, rfl⟩)
    go_ret
    exact ⟨retB (by rw [HR.out]), 0, rfl⟩
  have h1 : inB 1 R 32 = true := by cases hi : inB 1 R 32; exact absurd hi h1; rfl
  have HI1 := Lib.hid h1
  by_cases h5 : R < (ks.length : Int)
  · have HR := Lib.hid (show r = false by rw [← hr]; exact topsB_dims (fun d => by have := d.le; omega))
    clear hr h1
    go_enter Try.func69, Try.ntmps69
    go_wp2_with (go_at_call 77; refine (c_l00In_w R 1 32 _ HI1.out).mono ?_; rintro e w' ⟨rfl, rfl⟩)
    go_ret
    exact ⟨retB (by rw [HR.out]), 0, rfl⟩
  by_cases h6 : ¬ cs.length = ks.length
  · have HR := Lib.hid (show r = false by rw [← hr]; exact topsB_dims (fun d => by exact h6 d.c))
    have h5' : (ks.length : Int) ≤ R := by omega
    have h6a : ((cs.length : Int) == (ks.length : Int)) = false := by simp; omega
    have h6b : ((cs.length : Int) != (ks.length : Int)) = true := by simp; omega
    clear hr h1 h6
    go_enter Try.func69, Try.ntmps69
    go_wp2_with (go_at_call 77; refine (c_l00In_w R 1 32 _ HI1.out).mono ?_; rintro e w' ⟨rfl, rfl⟩)
    go_ret
    exact ⟨retB (by rw [HR.out]), 0, rfl⟩
  have h6 : cs.length = ks.length := Classical.byContradiction h6
  by_cases h7 : ¬ es.length = ks.length
  · have HR := Lib.hid (show r = false by rw [← hr]; exact topsB_dims (fun d => by exact h7 d.e))
    have h5' : (ks.length : Int) ≤ R := by omega
    have h6a : ((cs.length : Int) == (ks.length : Int)) = true := by simp; omega
    have h6b : ((cs.length : Int) != (ks.length : Int)) = false := by simp; omega
    have h7a : ((es.length : Int) == (ks.length : Int)) = false := by simp; omega
    have h7b : ((es.length : Int) != (ks.length : Int)) = true := by simp; omega
    clear hr h1 h6 h7
    go_enter Try.func69, Try.ntmps69
    go_wp2_with (go_at_call 77; refine (c_l00In_w R 1 32 _ HI1.out).mono ?_; rintro e w' ⟨rfl, rfl⟩)
    go_ret
    exact ⟨retB (by rw [HR.out]), 0, rfl⟩
  have h7 : es.length = ks.length := Classical.byContradiction h7
  have h5' : (ks.length : Int) ≤ R := by omega
  have h6a : ((cs.length : Int) == (ks.length : Int)) = true := by simp; omega
  have h6b : ((cs.length : Int) != (ks.length : Int)) = false := by simp; omega
  have h7a : ((es.length : Int) == (ks.length : Int)) = true := by simp; omega
  have h7b : ((es.length : Int) != (ks.length : Int)) = false := by simp; omega
  have n1 := inB_is.1 h1
  have hk32 : (ks.length : Int) ≤ 32 := by omega
  have HT := Lib.hid (show allTo ks.length (topAt ks cs es) = r by rw [← hr]; exact (topsB_all ((RoomOk.mk n1.1 n1.2 h5' h6 h7).b)).symm)
  have HG := Lib.hid h6
  have HSL := Lib.hid h7
  have HC1 := Lib.hid H.out.r1.int.2
  have HC2 := Lib.hid H.out.r2.int.2
  have HC3 := Lib.hid H.out.r3.int.2
  clear h1 h5 h6 h7 n1 hr
  go_enter Try.func69, Try.ntmps69
  go_wp2_with (go_at_call 77; refine (c_l00In_w R 1 32 _ HI1.out).mono ?_; rintro e w' ⟨rfl, rfl⟩)
  clear b0 b1 b2 b3
  go_loopw [47] (fun i wr => ∃ k q : Nat, k ≤ ks.length ∧ i = .int .i64 k ∧ wr = w.drewN q ∧ ∀ j, j < k → topAt ks cs es j = true) (fun i _ => ks.length - (intOf i).toNat)
  case atStart => exact ⟨0, 0, Nat.zero_le _, rfl, rfl, fun j hj => absurd hj (Nat.not_lt_zero _)⟩
  case round =>
    obtain ⟨k, q, hk, rfl, hw, hall⟩ := hrel
    have HA := Lib.hid hall
    have HW := Lib.hid hw
    clear hall hw
    obtain ⟨b0, b1, b2, b3⟩ := (BX.out.on (show Ext w wr by rw [HW.out]; exact Ext.drewN w q)).four
    by_cases hlt : k < ks.length
    · have hkg : (k : Int) < (cs.length : Int) := by have := HG.out; omega
      have hks : (k : Int) < (es.length : Int) := by have := HSL.out; omega
      have hkv : (k : Int) < (ks.length : Int) := by omega
      have HTK := Lib.hid (fun q' => (H.out.r1.take (i := k) (by omega)).on (Ext.drewN w q'))
      rcases HC1.out with h0 | ⟨kb, ko, rfl, hc1⟩
      · omega
      rcases HC2.out with h0 | ⟨gb, go, rfl, hc2⟩
      · have := HG.out; omega
      rcases HC3.out with h0 | ⟨sb, so, rfl, hc3⟩
      · have := HSL.out; omega
      have c1 : wr.cell? ⟨kb, ko + k, none⟩ = some (.int .i64 (getI ks k)) := by rw [HW.out]; exact hc1 k hlt
      have c2 : wr.cell? ⟨gb, go + k, none⟩ = some (.int .i64 (getI cs k)) := by rw [HW.out]; exact hc2 k (by have := HG.out; omega)
      have c3 : wr.cell? ⟨sb, so + k, none⟩ = some (.int .i64 (getI es k)) := by rw [HW.out]; exact hc3 k (by have := HSL.out; omega)
      obtain ⟨x, hx⟩ : ∃ x, getI ks k = x := ⟨_, rfl⟩
      obtain ⟨y, hy⟩ : ∃ y, getI cs k = y := ⟨_, rfl⟩
      obtain ⟨z, hz⟩ : ∃ z, getI es k = z := ⟨_, rfl⟩
      have HX := Lib.hid hx
      have HY := Lib.hid hy
      have HZ := Lib.hid hz
      rw [hx] at c1
      rw [hy] at c2
      rw [hz] at c3
      have HTR := Lib.hid (show Reads wr (some ⟨kb, ko, none⟩) k (ints (ks.take k)) by rw [HW.out]; exact HTK.out q)
      have HKM := Lib.hid (show k ≤ maxLen by unfold maxLen; omega)
      have kc1 : (k : Int) ≤ (cap1 : Int) := by omega
      have kc2 : (k : Int) < (cap1 : Int) := by omega
      have kc3 : k < cap1 := by omega
      have kc4 : ¬ cap1 = 0 := by omega
      have kc5 : k ≤ cap1 := by omega
      clear hc1 hc2 hc3 hx hy hz
      cases hkx : keyB x
      · have HK := Lib.hid hkx
        have HF := Lib.hid (show r = false by rw [← HT.out]; refine allTo_no hlt ?_; unfold topAt; rw [HX.out, HY.out, HZ.out]; rw [hkx]; rfl)
        clear hkx
        go_wp2
        go_quiet ((go_at_call 70; exact Calls.quiet_of_same (c_spec_l02Key_q x _ HK.out)))
        go_wp2
        go_ret
        exact ⟨retB (by rw [HF.out]), _, by rw [HW.out, World.drewN_drewN]⟩
      have HK := Lib.hid hkx
      cases hh : hasL (ks.take k) x
      rotate_left
      · have HH := Lib.hid hh
        have HF := Lib.hid (show r = false by rw [← HT.out]; refine allTo_no hlt ?_; unfold topAt; rw [HX.out, HY.out, HZ.out]; rw [hh]; simp)
        clear hkx hh
        go_wp2
        go_quiet (first | (go_at_call 70; exact Calls.quiet_of_same (c_spec_l02Key_q x _ HK.out)) | (go_at_call 82; exact Calls.quiet_of_same (c_spec_l00Has _ _ _ (ks.take k) x _ HH.out HKM.out HTR.out)))
        go_wp2
        go_ret
        exact ⟨retB (by rw [HF.out]), _, by rw [HW.out, World.drewN_drewN]⟩
      have HH := Lib.hid hh
      cases hc : inB 1 y 1000000000000
      · have HC := Lib.hid hc
        have HF := Lib.hid (show r = false by rw [← HT.out]; refine allTo_no hlt ?_; unfold topAt; rw [HX.out, HY.out, HZ.out]; unfold cntB; rw [hc]; simp)
        clear hkx hh hc
        go_wp2
        go_quiet (first | (go_at_call 70; exact Calls.quiet_of_same (c_spec_l02Key_q x _ HK.out)) | (go_at_call 82; exact Calls.quiet_of_same (c_spec_l00Has _ _ _ (ks.take k) x _ HH.out HKM.out HTR.out)) | (go_at_call_of 77 (Value.int .i64 1000000000000); exact Calls.quiet_of_same (c_l00In_q y 1 1000000000000 _ HC.out)))
        go_wp2
        go_ret
        exact ⟨retB (by rw [HF.out]), _, by rw [HW.out, World.drewN_drewN]⟩
      have HC := Lib.hid hc
      have y1b := (inB_is.1 hc).1
      have y2b := (inB_is.1 hc).2
      obtain ⟨y1, hy1⟩ : ∃ y1, y - 1 = y1 := ⟨_, rfl⟩
      have HY1 := Lib.hid hy1
      cases he : inB 0 z y1
      · have HE := Lib.hid he
        have HF := Lib.hid (show r = false by rw [← HT.out]; refine allTo_no hlt ?_; unfold topAt; rw [HX.out, HY.out, HZ.out]; unfold cntB; rw [hy1, he]; simp)
        clear hkx hh hc he
        go_wp2
        go_quiet (first | (go_at_call 70; exact Calls.quiet_of_same (c_spec_l02Key_q x _ HK.out)) | (go_at_call 82; exact Calls.quiet_of_same (c_spec_l00Has _ _ _ (ks.take k) x _ HH.out HKM.out HTR.out)) | (go_at_call_of 77 (Value.int .i64 1000000000000); exact Calls.quiet_of_same (c_l00In_q y 1 1000000000000 _ HC.out)) | (go_at_call 77; exact Calls.quiet_of_same (c_l00In_q z 0 y1 _ HE.out)))
        go_wp2
        go_ret
        exact ⟨retB (by rw [HF.out]), _, by rw [HW.out, World.drewN_drewN]⟩
      have HE := Lib.hid he
      have HTA := Lib.hid (show topAt ks cs es k = true by unfold topAt; rw [HX.out, HY.out, HZ.out, hkx, hh]; unfold cntB; rw [hc, hy1, he]; rfl)
      clear hkx hh hc he
      go_wp2
      go_quiet (first | (go_at_call 70; exact Calls.quiet_of_same (c_spec_l02Key_q x _ HK.out)) | (go_at_call 82; exact Calls.quiet_of_same (c_spec_l00Has _ _ _ (ks.take k) x _ HH.out HKM.out HTR.out)) | (go_at_call_of 77 (Value.int .i64 1000000000000); exact Calls.quiet_of_same (c_l00In_q y 1 1000000000000 _ HC.out)) | (go_at_call 77; exact Calls.quiet_of_same (c_l00In_q z 0 y1 _ HE.out)))
      go_wp2
      go_roundw
      case rel => exact ⟨k + 1, _, by omega, by go_num, by rw [HW.out, World.drewN_drewN], fun j hj => by
        by_cases e : j = k
        · subst e; exact HTA.out
        · exact HA.out j (by omega)⟩
      case measure => simp [intOf]; omega
    · obtain rfl : k = ks.length := by omega
      have HF := Lib.hid (show r = true by rw [← HT.out]; exact allTo_yes HA.out)
      go_wp2
      go_ret
      exact ⟨retB (by rw [HF.out]), _, HW.out⟩
end Go.Proofs.Ytfmjohpmfcmpoab
