/- TopBounds: both sides. -/
import Derived.Test.YtfmjohpmfcmpoabTpb
namespace Go.Proofs.Ytfmjohpmfcmpoab
open Go.ChangeShapes Go.WideShapes Go.ChangeAt Go.RowKit
set_option linter.unusedVariables false
/-- the first index of the least -/
def lowTo (f : Nat → Int) : Nat → Nat
  | 0 => 0
  | n + 1 => if f n < f (lowTo f n) then n else lowTo f n
theorem lowTo_lt (f : Nat → Int) : ∀ n, 0 < n → lowTo f n < n
  | 0, h => by omega
  | 1, _ => by show (if f 0 < f 0 then 0 else 0) < 1; split <;> omega
  | n + 2, _ => by
    have ih := lowTo_lt f (n + 1) (by omega)
    show (if f (n + 1) < f (lowTo f (n + 1)) then n + 1 else lowTo f (n + 1)) < n + 2
    split <;> omega
theorem lowTo_le (f : Nat → Int) (n : Nat) : lowTo f n ≤ n := by
  by_cases h : n = 0
  · subst h; exact Nat.le_refl _
  · have := lowTo_lt f n (by omega); omega
theorem lowTo_yes {f : Nat → Int} {n : Nat} (h : f n < f (lowTo f n)) : lowTo f (n + 1) = n := if_pos h
theorem lowTo_no {f : Nat → Int} {n : Nat} (h : ¬ f n < f (lowTo f n)) : lowTo f (n + 1) = lowTo f n := if_neg h
/-- the least of the first n + 1 -/
def leastZ (f : Nat → Int) : Nat → Int
  | 0 => f 0
  | n + 1 => min (leastZ f n) (f (n + 1))
theorem low_least (f : Nat → Int) : ∀ n, f (lowTo f (n + 1)) = leastZ f n
  | 0 => by
    have : lowTo f 1 = 0 := by show (if f 0 < f 0 then 0 else 0) = 0; split <;> rfl
    rw [this]; rfl
  | n + 1 => by
    have ih := low_least f n
    show _ = min (leastZ f n) (f (n + 1))
    rw [← ih]
    by_cases h : f (n + 1) < f (lowTo f (n + 1))
    · rw [lowTo_yes h]; omega
    · rw [lowTo_no h]; omega
/-- the bounds of a key -/
def bndZ (R : Int) (ks cs es : List Int) (key : Int) : Int × Int :=
  if findL ks key < ks.length then (getI cs (findL ks key) - getI es (findL ks key), getI cs (findL ks key))
  else if (ks.length : Int) < R then (0, 0) else (0, getI cs (lowTo (getI cs) cs.length))
theorem bndZ_in {R : Int} {ks cs es : List Int} {key : Int} (h : findL ks key < ks.length) : bndZ R ks cs es key = (getI cs (findL ks key) - getI es (findL ks key), getI cs (findL ks key)) := if_pos h
theorem bndZ_room {R : Int} {ks cs es : List Int} {key : Int} (h : ¬ findL ks key < ks.length) (h' : (ks.length : Int) < R) : bndZ R ks cs es key = (0, 0) := by unfold bndZ; rw [if_neg h, if_pos h']
theorem bndZ_full {R : Int} {ks cs es : List Int} {key : Int} (h : ¬ findL ks key < ks.length) (h' : ¬ (ks.length : Int) < R) : bndZ R ks cs es key = (0, getI cs (lowTo (getI cs) cs.length)) := by unfold bndZ; rw [if_neg h, if_neg h']
def topBndR (R : Int) (ks cs es : List Int) (key : Int) : Int × Int × Bool := if topsB R ks cs es && keyB key then ((bndZ R ks cs es key).1, (bndZ R ks cs es key).2, true) else (0, 0, false)
theorem topBndR_1 {R : Int} {ks cs es : List Int} {key : Int} (h : topsB R ks cs es = false) : topBndR R ks cs es key = (0, 0, false) := by unfold topBndR; rw [h]; rfl
theorem topBndR_2 {R : Int} {ks cs es : List Int} {key : Int} (h : keyB key = false) : topBndR R ks cs es key = (0, 0, false) := by unfold topBndR; rw [h]; simp
theorem topBndR_y {R : Int} {ks cs es : List Int} {key : Int} (h : topsB R ks cs es = true) (h' : keyB key = true) : topBndR R ks cs es key = ((bndZ R ks cs es key).1, (bndZ R ks cs es key).2, true) := by unfold topBndR; rw [h, h']; rfl
/-- a call that draws, behind draws -/
theorem q_more {P : Program} {f : FuncId} {args : Array Value} {w : World} {a n : Nat} {v : Value} (h : Calls P f args (w.drewN (a + n)) fun e w' => e = .returned v ∧ ∃ m, w' = (w.drewN (a + n)).drewN m) :
    Calls P f args (w.drewN (a + n)) fun e w' => e = .returned v ∧ ∃ m, w' = w.drewN (a + m) := by
  refine h.mono ?_
  rintro e w' ⟨he, m, rfl⟩
  exact ⟨he, n + m, by rw [World.drewN_drewN, Nat.add_assoc]⟩
theorem ret_two {a b c d : Int} (h : a = c) (h' : b = d) : Ending.returned (.tuple #[.int .i64 a, .int .i64 b]) = .returned (.tuple #[.int .i64 c, .int .i64 d]) := by rw [h, h']
theorem ret_twoB {a b c d : Int} {r : Bool} (h : a = c) (h' : b = d) : Ending.returned (.tuple #[.int .i64 a, .int .i64 b, .bool r]) = .returned (.tuple #[.int .i64 c, .int .i64 d, .bool r]) := by rw [h, h']
set_option maxHeartbeats 1000000 in
theorem c_spec_l03Lowest (a : Option Addr) (n cap : Nat) (zs : List Int) (w : World) {v : Nat} (hv : lowTo (getI zs) n = v) (hm : n ≤ 1048576) (h : Reads w a n (ints zs)) :
    Calls Try.prog 131 #[.slice a n cap] w fun e w' => e = .returned (.int .i64 v) ∧ ∃ q, w' = w.drewN q := by
  obtain ⟨hz, hrd⟩ := h.int
  have HR := Lib.hid hrd
  have HV := Lib.hid hv
  clear h hz hrd hv
  go_enter Try.func131, Try.ntmps131
  go_wp2
  go_loopw [3, 7] (fun s i wr => ∃ k q : Nat, k ≤ n ∧ i = .int .i64 k ∧ s = .int .i64 ((lowTo (getI zs) k : Nat) : Int) ∧ wr = w.drewN q) (fun _ i _ => n - (intOf i).toNat)
  case atStart => exact ⟨0, 0, Nat.zero_le _, rfl, rfl, rfl⟩
  case round =>
    obtain ⟨k, q, hk, rfl, rfl, hw⟩ := hrel
    have HW := Lib.hid hw
    clear hw
    by_cases hlt : k < n
    · rcases HR.out with h0 | ⟨b, off, rfl, hc⟩
      · omega
      have hml := lowTo_le (getI zs) k
      obtain ⟨m, hm1⟩ : ∃ m, lowTo (getI zs) k = m := ⟨_, rfl⟩
      rw [hm1] at hml ⊢
      have c1 : wr.cell? ⟨b, off + k, none⟩ = some (.int .i64 (getI zs k)) := by rw [HW.out]; exact hc k hlt
      have c2 : wr.cell? ⟨b, off + m, none⟩ = some (.int .i64 (getI zs m)) := by rw [HW.out]; exact hc m (by omega)
      obtain ⟨x, hx⟩ : ∃ x, getI zs k = x := ⟨_, rfl⟩
      obtain ⟨y, hy⟩ : ∃ y, getI zs m = y := ⟨_, rfl⟩
      rw [hx] at c1
      rw [hy] at c2
      have e1 : (k : Int) < (n : Int) := by omega
      have e2 : (m : Int) < (n : Int) := by omega
      by_cases hlt2 : x < y
      · have HL := Lib.hid (show lowTo (getI zs) (k + 1) = k from lowTo_yes (by rw [hm1, hx, hy]; exact hlt2))
        clear hc hx hy hm1
        go_wp2
        go_quiet (fail)
        go_wp2
        go_roundw
        case rel => exact ⟨k + 1, _, by omega, by go_num, by rw [HL.out], by rw [HW.out, World.drewN_drewN]⟩
        case measure => simp [intOf]; omega
      · have HL := Lib.hid (show lowTo (getI zs) (k + 1) = m from by rw [lowTo_no (by rw [hm1, hx, hy]; exact hlt2), hm1])
        clear hc hx hy hm1
        go_wp2
        go_quiet (fail)
        go_wp2
        go_roundw
        case rel => exact ⟨k + 1, _, by omega, by go_num, by rw [HL.out], by rw [HW.out, World.drewN_drewN]⟩
        case measure => simp [intOf]; omega
    · obtain rfl : k = n := by omega
      go_wp2
      go_ret
      exact ⟨by first | (rw [HV.out]; done) | (rw [HV.out]; rfl), _, HW.out⟩
set_option maxHeartbeats 1000000 in
theorem c_MinZ (a : Option Addr) (n cap : Nat) (zs : List Int) (w : World) {v : Int} (hv : leastZ (getI zs) n = v) (hm : n + 1 ≤ 1048576) (h : Reads w a (n + 1) (ints zs)) :
    Calls Try.prog 186 #[.slice a (n + 1) cap] w fun e w' => e = .returned (.int .i64 v) ∧ w = w' := by
  obtain ⟨hz, hrd⟩ := h.int
  rcases hrd with h1 | ⟨b, off, rfl, hc⟩
  · omega
  have HV := Lib.hid hv
  have HC := Lib.hid hc
  have c0 : w.cell? ⟨b, off + 0, none⟩ = some (.int .i64 (getI zs 0)) := hc 0 (by omega)
  simp only [Nat.add_zero] at c0
  obtain ⟨N, hN⟩ : ∃ N, n + 1 = N := ⟨_, rfl⟩
  have HN := Lib.hid hN
  have hN1 : (1 : Int) ≤ (N : Int) := by omega
  have hN2 : (N : Int) ≤ 1048576 := by omega
  have hN3 : 0 < N := by omega
  rw [hN]
  clear h hz hc hv hN
  go_enter Try.func186, Try.ntmps186
  go_wp2
  go_loop [3, 4] (fun m i => ∃ k : Nat, k + 1 ≤ N ∧ i = .int .i64 ((k + 1 : Nat) : Int) ∧ m = .int .i64 (leastZ (getI zs) k)) (fun _ i => N - (intOf i).toNat)
  case atStart => exact ⟨0, by omega, rfl, rfl⟩
  case round =>
    obtain ⟨k, hk, rfl, rfl⟩ := hrel
    by_cases hlt : k + 1 < N
    · have hcell : w.cell? ⟨b, off + (k + 1), none⟩ = some (.int .i64 (getI zs (k + 1))) := HC.out (k + 1) (by rw [HN.out]; exact hlt)
      obtain ⟨x, hx⟩ : ∃ x, getI zs (k + 1) = x := ⟨_, rfl⟩
      obtain ⟨y, hy⟩ : ∃ y, leastZ (getI zs) k = y := ⟨_, rfl⟩
      have HM := Lib.hid (show leastZ (getI zs) (k + 1) = min y x by show min (leastZ (getI zs) k) (getI zs (k + 1)) = _; rw [hx, hy])
      rw [hx] at hcell
      rw [hy]
      clear hx hy
      go_wp2
      all_goals
        go_round
        case rel => exact ⟨k + 1, by omega, by go_num, by first | (rw [HM.out]; done) | (rw [HM.out]; rfl) | (rw [HM.out]; first | (congr 1; omega))⟩
        case measure => simp [intOf]; omega
    · obtain rfl : N = k + 1 := by omega
      have HK := Lib.hid (show leastZ (getI zs) k = v by rw [← HV.out]; congr 1; have := HN.out; omega)
      go_wp2
      go_ret
      exact ⟨by first | (rw [HK.out]; done) | (rw [HK.out]; rfl), rfl⟩
theorem c_impl_isFull (R : Int) (a1 : Option Addr) (n1 cap1 : Nat) (a2 : Option Addr) (n2 cap2 : Nat) (a3 : Option Addr) (n3 cap3 : Nat) (w : World) {r : Bool} (hr : decide ((n1 : Int) = R) = r) :
    Calls Try.prog 135 #[.agg #[.int .i64 R, .slice a1 n1 cap1, .slice a2 n2 cap2, .slice a3 n3 cap3]] w fun e w' => e = .returned (.bool r) ∧ Ext w w' := by
  by_cases h : (n1 : Int) = R
  · have HR := Lib.hid (show r = true by rw [← hr]; exact decide_eq_true h)
    subst h
    clear hr
    go_enter Try.func135, Try.ntmps135
    go_wp2
    go_ret
    exact ⟨retB (by first | (rw [HR.out]; done) | (rw [HR.out]; rfl) | (rw [HR.out]; first | (simp; done))), by (repeat (first | assumption | exact Ext.refl _ | (with_reducible refine Ext.stepS ?_ (by first | exact Nat.le_refl _ | (simp; done) | (simp; omega)) _) | (with_reducible refine Ext.stepN ?_ _) | (with_reducible refine Ext.stepD ?_) | (with_reducible refine Ext.stepA ?_ _)))⟩
  · have HR := Lib.hid (show r = false by rw [← hr]; exact decide_eq_false h)
    have h1 : ((n1 : Int) == R) = false := by simpa using h
    clear hr
    go_enter Try.func135, Try.ntmps135
    go_wp2
    go_ret
    exact ⟨retB (by first | (rw [HR.out]; done) | (rw [HR.out]; rfl) | (rw [HR.out]; first | (simp; done))), by (repeat (first | assumption | exact Ext.refl _ | (with_reducible refine Ext.stepS ?_ (by first | exact Nat.le_refl _ | (simp; done) | (simp; omega)) _) | (with_reducible refine Ext.stepN ?_ _) | (with_reducible refine Ext.stepD ?_) | (with_reducible refine Ext.stepA ?_ _)))⟩
set_option maxHeartbeats 4000000 in
theorem c_impl_boundsIn (R : Int) (a1 : Option Addr) (cap1 : Nat) (ks : List Int) (a2 : Option Addr) (cap2 : Nat) (cs : List Int) (a3 : Option Addr) (cap3 : Nat) (es : List Int) (key : Int) (w : World) {v1 v2 : Int} (hv : bndZ R ks cs es key = (v1, v2)) (ok : TopsOk R ks cs es) (h : Reads3 w a1 ks.length (ints ks) a2 cs.length (ints cs) a3 es.length (ints es)) :
    Calls Try.prog 141 #[.agg #[.int .i64 R, .slice a1 ks.length cap1, .slice a2 cs.length cap2, .slice a3 es.length cap3], .int .i64 key] w fun e w' => e = .returned (.tuple #[.int .i64 v1, .int .i64 v2]) ∧ Ext w w' := by
  have H := Lib.hid h
  have OK := Lib.hid ok
  have hk32 : ks.length ≤ 32 := by have := ok.room.le; have := ok.room.hi; omega
  have HM1 := Lib.hid (show ks.length ≤ maxLen by unfold maxLen; omega)
  have hce := ok.room.c
  have hee := ok.room.e
  have BX := Lib.hid (Box.alloc w #[.int .i64 R, .slice a1 ks.length cap1, .slice a2 cs.length cap2, .slice a3 es.length cap3] 26)
  have X0 := Lib.hid (Ext.alloc w (.cells #[.int .i64 R, .slice a1 ks.length cap1, .slice a2 cs.length cap2, .slice a3 es.length cap3] 26))
  obtain ⟨b0, b1, b2, b3⟩ := BX.out.four
  by_cases hf : findL ks key < ks.length
  · rw [bndZ_in hf] at hv
    have HI := Lib.hid (idxZ_yes hf)
    obtain ⟨i, hi⟩ : ∃ i, findL ks key = i := ⟨_, rfl⟩
    rw [hi] at hf hv HI
    have HV := Lib.hid hv
    obtain ⟨hz2, hr2⟩ := (H.out.r2.on X0.out).int
    obtain ⟨hz3, hr3⟩ := (H.out.r3.on X0.out).int
    rcases hr2 with h0 | ⟨cb, co, rfl, hc2⟩
    · omega
    rcases hr3 with h0 | ⟨eb, eo, rfl, hc3⟩
    · omega
    have c1 : (w.alloc (.cells #[.int .i64 R, .slice a1 ks.length cap1, .slice (some ⟨cb, co, none⟩) cs.length cap2, .slice (some ⟨eb, eo, none⟩) es.length cap3] 26)).cell? ⟨cb, co + i, none⟩ = some (.int .i64 (getI cs i)) := hc2 i (by omega)
    have c2 : (w.alloc (.cells #[.int .i64 R, .slice a1 ks.length cap1, .slice (some ⟨cb, co, none⟩) cs.length cap2, .slice (some ⟨eb, eo, none⟩) es.length cap3] 26)).cell? ⟨eb, eo + i, none⟩ = some (.int .i64 (getI es i)) := hc3 i (by omega)
    have q1 := ok.c1 i hf
    have q2 := ok.e1 i hf
    obtain ⟨x, hx⟩ : ∃ x, getI cs i = x := ⟨_, rfl⟩
    obtain ⟨y, hy⟩ : ∃ y, getI es i = y := ⟨_, rfl⟩
    rw [hx] at c1 q1 q2
    rw [hy] at c2 q2
    have HX := Lib.hid hx
    have HY := Lib.hid hy
    have e1 : (i : Int) < (cs.length : Int) := by omega
    have e2 : (i : Int) < (es.length : Int) := by omega
    have e3 : (0 : Int) ≤ (i : Int) := by omega
    have q3 := q1.1
    have q4 := q1.2
    have q5 := q2.1
    have q6 := q2.2
    clear hc2 hc3 hz2 hz3 hx hy hi hv h ok hce hee q1 q2
    go_enter Try.func141, Try.ntmps141
    go_wp2_with fail
    refine (c_Index _ _ _ ks key _ HI.out HM1.out (H.out.r1.on X0.out)).mono ?_; rintro e w' ⟨rfl, rfl⟩
    go_wp2
    go_quiet (fail)
    go_wp2
    go_ret2
    exact ⟨ret_two (by have := congrArg Prod.fst HV.out; simp only [HX.out, HY.out] at this; exact this) (by have := congrArg Prod.snd HV.out; simp only [HX.out] at this; exact this), X0.out.stepN _⟩
  · have HI := Lib.hid (idxZ_no hf)
    by_cases hr : (ks.length : Int) < R
    · rw [bndZ_room hf hr] at hv
      cases hv
      have HF := Lib.hid (show decide ((ks.length : Int) = R) = false from decide_eq_false (by omega))
      clear hf hr h ok hce hee
      go_enter Try.func141, Try.ntmps141
      go_wp2_with fail
      refine (c_Index _ _ _ ks key _ HI.out HM1.out (H.out.r1.on X0.out)).mono ?_; rintro e w' ⟨rfl, rfl⟩
      go_wp2_with fail
      clear b0 b1 b2 b3
      refine (c_impl_isFull R _ _ _ _ _ _ _ _ _ _ HF.out).mono ?_; rintro e w1 ⟨rfl, x'⟩
      have X1 := Lib.hid (X0.out.trans x')
      clear x'
      go_wp2
      go_ret2
      exact ⟨rfl, X1.out⟩
    · rw [bndZ_full hf hr] at hv
      cases hv
      have HF := Lib.hid (show decide ((ks.length : Int) = R) = true from decide_eq_true (by have := ok.room.le; omega))
      obtain ⟨m, hm⟩ : ∃ m, cs.length = m + 1 := ⟨cs.length - 1, by have := ok.room.lo; omega⟩
      have HM := Lib.hid hm
      have HL := Lib.hid (show leastZ (getI cs) m = getI cs (lowTo (getI cs) cs.length) by rw [hm]; exact (low_least _ _).symm)
      have HR2 := Lib.hid (show Reads w a2 (m + 1) (ints cs) by have := H.out.r2; rwa [hm] at this)
      have HMB := Lib.hid (show m + 1 ≤ 1048576 by omega)
      clear hf hr h ok hce hee hm
      go_enter Try.func141, Try.ntmps141
      go_wp2_with fail
      refine (c_Index _ _ _ ks key _ HI.out HM1.out (H.out.r1.on X0.out)).mono ?_; rintro e w' ⟨rfl, rfl⟩
      go_wp2_with fail
      clear b0 b1 b2 b3
      refine (c_impl_isFull R _ _ _ _ _ _ _ _ _ _ HF.out).mono ?_; rintro e w1 ⟨rfl, x'⟩
      obtain ⟨b0, b1, b2, b3⟩ := (BX.out.on x').four
      have X1 := Lib.hid (X0.out.trans x')
      clear x'
      go_wp2_with fail
      clear b0 b1 b2 b3
      rw [HM.out]
      refine (c_MinZ _ m _ cs _ HL.out HMB.out (HR2.out.on X1.out)).mono ?_; rintro e w2 ⟨rfl, rfl⟩
      go_wp2
      go_ret2
      exact ⟨by first | rfl | (rw [HM.out]; rfl), X1.out⟩
set_option maxRecDepth 100000 in
set_option maxHeartbeats 4000000 in
theorem c_spec_l03Bounds (qb : Nat) (R : Int) (a1 : Option Addr) (cap1 : Nat) (ks : List Int) (a2 : Option Addr) (cap2 : Nat) (cs : List Int) (a3 : Option Addr) (cap3 : Nat) (es : List Int) (key : Int) (w : World) {v1 v2 : Int} (hv : bndZ R ks cs es key = (v1, v2)) (ok : TopsOk R ks cs es) (h : Reads3 w a1 ks.length (ints ks) a2 cs.length (ints cs) a3 es.length (ints es))
    (hq : Box w qb 26 #[.int .i64 R, .slice a1 ks.length cap1, .slice a2 cs.length cap2, .slice a3 es.length cap3]) :
    Calls Try.prog 83 #[.pointer (some ⟨qb, 0, none⟩), .int .i64 key] w fun e w' => e = .returned (.tuple #[.int .i64 v1, .int .i64 v2]) ∧ ∃ q, w' = w.drewN q := by
  have H := Lib.hid h
  have OK := Lib.hid ok
  have hk32 : ks.length ≤ 32 := by have := ok.room.le; have := ok.room.hi; omega
  have HM1 := Lib.hid (show ks.length ≤ maxLen by unfold maxLen; omega)
  have hce := ok.room.c
  have hee := ok.room.e
  obtain ⟨b0, b1, b2, b3⟩ := hq.four
  by_cases hf : findL ks key < ks.length
  · rw [bndZ_in hf] at hv
    have HI := Lib.hid (idxZ_yes hf)
    obtain ⟨i, hi⟩ : ∃ i, findL ks key = i := ⟨_, rfl⟩
    rw [hi] at hf hv HI
    have HV := Lib.hid hv
    obtain ⟨hz2, hr2⟩ := H.out.r2.int
    obtain ⟨hz3, hr3⟩ := H.out.r3.int
    rcases hr2 with h0 | ⟨cb, co, rfl, hc2⟩
    · omega
    rcases hr3 with h0 | ⟨eb, eo, rfl, hc3⟩
    · omega
    have c1 : w.cell? ⟨cb, co + i, none⟩ = some (.int .i64 (getI cs i)) := hc2 i (by omega)
    have c2 : w.cell? ⟨eb, eo + i, none⟩ = some (.int .i64 (getI es i)) := hc3 i (by omega)
    have q1 := ok.c1 i hf
    have q2 := ok.e1 i hf
    obtain ⟨x, hx⟩ : ∃ x, getI cs i = x := ⟨_, rfl⟩
    obtain ⟨y, hy⟩ : ∃ y, getI es i = y := ⟨_, rfl⟩
    rw [hx] at c1 q1 q2
    rw [hy] at c2 q2
    have HX := Lib.hid hx
    have HY := Lib.hid hy
    have e1 : (i : Int) < (cs.length : Int) := by omega
    have e2 : (i : Int) < (es.length : Int) := by omega
    have e3 : (0 : Int) ≤ (i : Int) := by omega
    have q3 := q1.1
    have q4 := q1.2
    have q5 := q2.1
    have q6 := q2.2
    clear hc2 hc3 hz2 hz3 hx hy hi hv h ok hce hee q1 q2 hq
    go_enter Try.func83, Try.ntmps83
    go_wp2_with fail
    refine (c_spec_l03Find _ _ _ ks key _ HI.out HM1.out H.out.r1).mono ?_; rintro e w' ⟨rfl, rfl⟩
    go_wp2
    go_quiet (fail)
    go_wp2
    go_ret2
    exact ⟨ret_two (by have := congrArg Prod.fst HV.out; simp only [HX.out, HY.out] at this; exact this) (by have := congrArg Prod.snd HV.out; simp only [HX.out] at this; exact this), _, rfl⟩
  · have HI := Lib.hid (idxZ_no hf)
    by_cases hr : (ks.length : Int) < R
    · rw [bndZ_room hf hr] at hv
      cases hv
      clear hf h ok hce hee hq
      go_enter Try.func83, Try.ntmps83
      go_wp2_with fail
      refine (c_spec_l03Find _ _ _ ks key _ HI.out HM1.out H.out.r1).mono ?_; rintro e w' ⟨rfl, rfl⟩
      go_wp2
      go_quiet (fail)
      go_wp2
      go_ret2
      exact ⟨rfl, _, by first | rfl | rw [World.drewN_drewN]⟩
    · rw [bndZ_full hf hr] at hv
      have hlo := lowTo_lt (getI cs) cs.length (by have := ok.room.lo; omega)
      obtain ⟨m, hm⟩ : ∃ m, lowTo (getI cs) cs.length = m := ⟨_, rfl⟩
      rw [hm] at hv hlo
      have HM := Lib.hid hm
      obtain ⟨hz2, hr2⟩ := H.out.r2.int
      rcases hr2 with h0 | ⟨cb, co, rfl, hc2⟩
      · omega
      have c1 : w.cell? ⟨cb, co + m, none⟩ = some (.int .i64 (getI cs m)) := hc2 m hlo
      obtain ⟨x, hx⟩ : ∃ x, getI cs m = x := ⟨_, rfl⟩
      rw [hx] at c1 hv
      cases hv
      have hr' : R ≤ (ks.length : Int) := by omega
      have e1 : (m : Int) < (cs.length : Int) := by omega
      have HMB := Lib.hid (show cs.length ≤ 1048576 by omega)
      have HRR := Lib.hid (fun q => H.out.r2.on (Ext.drewN w q))
      clear hf hr h ok hce hee hq hm hc2 hz2 hx
      go_enter Try.func83, Try.ntmps83
      go_wp2_with fail
      refine (c_spec_l03Find _ _ _ ks key _ HI.out HM1.out H.out.r1).mono ?_; rintro e w' ⟨rfl, rfl⟩
      go_wp2
      go_quiet (fail)
      go_wp2
      go_quiet ((go_at_call 131; exact q_more (c_spec_l03Lowest _ _ _ cs _ HM.out HMB.out (HRR.out _))))
      go_wp2
      go_ret2
      exact ⟨rfl, _, by first | rfl | rw [World.drewN_drewN]⟩
end Go.Proofs.Ytfmjohpmfcmpoab
