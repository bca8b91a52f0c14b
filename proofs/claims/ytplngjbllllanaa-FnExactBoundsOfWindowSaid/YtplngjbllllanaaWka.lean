/- Windows: what is kept at a time (plain; late enough; the first that is kept; sums). -/
import Derived.Test.YtplngjbllllanaaWne
import Derived.Test.YtplngjbllllanaaAll
namespace Go.Proofs.Ytplngjbllllanaa
open Go.ChangeShapes Go.WideShapes Go.ChangeAt Go.RowKit
set_option linter.unusedVariables false
/-- how many at the front are none above a bound -/
def outW (c : Int) : List Int → Nat
  | [] => 0
  | x :: xs => if c < x then 0 else outW c xs + 1
theorem outW_yes {c x : Int} {xs : List Int} (h : c < x) : outW c (x :: xs) = 0 := if_pos h
theorem outW_no {c x : Int} {xs : List Int} (h : ¬ c < x) : outW c (x :: xs) = outW c xs + 1 := if_neg h
theorem outW_le (c : Int) : ∀ ts : List Int, outW c ts ≤ ts.length
  | [] => Nat.le_refl _
  | x :: xs => by
    have := outW_le c xs
    by_cases h : c < x
    · rw [outW_yes h]; exact Nat.zero_le _
    · rw [outW_no h, List.length_cons]; omega
theorem outW_lo (c : Int) : ∀ (ts : List Int) (i : Nat), i < outW c ts → getI ts i ≤ c
  | [], i, h => absurd h (Nat.not_lt_zero _)
  | x :: xs, i, h => by
    by_cases hx : c < x
    · rw [outW_yes hx] at h; exact absurd h (Nat.not_lt_zero _)
    · rw [outW_no hx] at h
      cases i with
      | zero => show x ≤ c; omega
      | succ i => exact outW_lo c xs i (by omega)
theorem outW_hi (c : Int) : ∀ ts : List Int, outW c ts < ts.length → c < getI ts (outW c ts)
  | [], h => absurd h (Nat.not_lt_zero _)
  | x :: xs, h => by
    by_cases hx : c < x
    · rw [outW_yes hx]; exact hx
    · rw [outW_no hx] at h ⊢
      exact outW_hi c xs (by rw [List.length_cons] at h; omega)
structure OutOk (c : Int) (ts : List Int) (d : Nat) : Prop where
  le : d ≤ ts.length
  lo : ∀ i, i < d → getI ts i ≤ c
  hi : ∀ i, d ≤ i → i < ts.length → c < getI ts i
theorem out_ok {c : Int} {ts : List Int} (h : ∀ i, i < ts.length → ascAt ts i = true) : OutOk c ts (outW c ts) := by
  refine ⟨outW_le c ts, outW_lo c ts, fun i hd hi => ?_⟩
  have h1 := outW_hi c ts (by omega)
  have h2 := asc_le h (i - outW c ts) (outW c ts) (by omega)
  rw [show outW c ts + (i - outW c ts) = i by omega] at h2
  omega
def notLate (ts : List Int) (t : Int) : Bool := decide (ts.length = 0) || decide (getI ts (ts.length - 1) ≤ t)
def lateB (L P : Int) (ts zs : List Int) (t : Int) : Bool := winB L P ts zs && (inB 0 t 1000000 && notLate ts t)
def kepT (L : Int) (ts : List Int) (t : Int) : List Int := ts.drop (outW (t - L) ts)
def kepZ (L : Int) (ts zs : List Int) (t : Int) : List Int := zs.drop (outW (t - L) ts)
theorem getI_drop (xs : List Int) (d i : Nat) : getI (xs.drop d) i = getI xs (d + i) := by unfold getI; rw [List.getElem?_drop]
structure LateOk (L P : Int) (ts zs : List Int) (t : Int) : Prop where
  w : winB L P ts zs = true
  ok : WinOk L P ts zs
  t1 : 0 ≤ t
  t2 : t ≤ 1000000
  l : ∀ i, i < ts.length → getI ts i ≤ t
theorem late_ok {L P : Int} {ts zs : List Int} {t : Int} (h : lateB L P ts zs t = true) : LateOk L P ts zs t := by
  unfold lateB notLate at h
  simp only [Bool.and_eq_true, Bool.or_eq_true, decide_eq_true_eq, inB_isW] at h
  obtain ⟨hw, ⟨h1, h2⟩, h3⟩ := h
  have ok := win_ok hw
  refine ⟨hw, ok, h1, h2, fun i hi => ?_⟩
  rcases h3 with h3 | h3
  · omega
  · have := asc_le ok.a (ts.length - 1 - i) i (by omega)
    rw [show i + (ts.length - 1 - i) = ts.length - 1 by omega] at this
    omega
theorem retI' {a b : Int} (h : a = b) : Ending.returned (.int .i64 a) = Ending.returned (.int .i64 b) := by rw [h]
set_option maxHeartbeats 1000000 in
theorem c_IndexFunc_has (t L : Int) (a : Option Addr) (n cap : Nat) (ts : List Int) (w : World) {d : Nat} {r : Int} (hr : (if d < n then (d : Int) else -1) = r) (hd : OutOk (t - L) ts d) (hl : ∀ i, i < ts.length → getI ts i ≤ t) (hm : n ≤ 1048576) (h : Reads w a n (ints ts)) (ht0 : 0 ≤ t) (ht1 : t ≤ 1000000) (hL0 : 1 ≤ L) (hL1 : L ≤ 1000000) :
    Calls Try.prog 136 #[.slice a n cap, .func (.func 137) #[.agg #[.int .i64 t, .int .i64 L]] #[]] w fun e w' => e = .returned (.int .i64 r) ∧ Ext w w' := by
  have HRR := Lib.hid hr
  obtain ⟨hz, hrd⟩ := h.int
  have HR := Lib.hid hrd
  have HD := Lib.hid hd
  have HL := Lib.hid hl
  have HZ := Lib.hid hz
  have hn' : (n : Int) ≤ 1048576 := by omega
  have hdle : d ≤ n := by have := hd.le; omega
  clear h hz hrd hd hl hr
  go_enter Try.func136, Try.ntmps136
  go_wp2
  go_loopw [8] (fun i wr => ∃ k : Nat, k ≤ d ∧ i = .int .i64 k ∧ Ext w wr) (fun i _ => n - (intOf i).toNat)
  case atStart => exact ⟨0, Nat.zero_le _, rfl, Ext.refl _⟩
  case round =>
    obtain ⟨k, hk, rfl, hext⟩ := hrel
    have HE := Lib.hid hext
    by_cases hlt : k < n
    · rcases HR.out with h0 | ⟨b, off, rfl, hc⟩
      · omega
      have c1 : wr.cell? ⟨b, off + k, none⟩ = some (.int .i64 (getI ts k)) := hext.some (hc k hlt)
      have bt := HL.out k (by rw [HZ.out]; exact hlt)
      by_cases hkd : k < d
      · have hlo := HD.out.lo k hkd
        obtain ⟨x, hx⟩ : ∃ x, getI ts k = x := ⟨_, rfl⟩
        rw [hx] at c1 bt hlo
        have HH := Lib.hid (show hasB t L x = false by unfold hasB; rw [decide_eq_false (show ¬ t - L < x by omega)]; rfl)
        clear hc hext hx bt hlo
        go_wp2_with fail
        refine (c_impl_has t L x _ HH.out ht0 ht1 hL0 hL1).mono ?_; rintro e w2 ⟨rfl, x2⟩
        go_wp2
        go_roundw
        case rel => exact ⟨k + 1, by omega, by go_num, HE.out.trans x2⟩
        case measure => simp [intOf]; omega
      · have hkk : k = d := by omega
        have hhi := HD.out.hi k (by omega) (by rw [HZ.out]; exact hlt)
        obtain ⟨x, hx⟩ : ∃ x, getI ts k = x := ⟨_, rfl⟩
        rw [hx] at c1 bt hhi
        have HH := Lib.hid (show hasB t L x = true by unfold hasB; rw [decide_eq_true hhi, decide_eq_true bt]; rfl)
        have HK := Lib.hid hkk
        clear hc hext hx bt hhi hkk hkd
        go_wp2_with fail
        refine (c_impl_has t L x _ HH.out ht0 ht1 hL0 hL1).mono ?_; rintro e w2 ⟨rfl, x2⟩
        go_wp2
        go_ret
        exact ⟨retI' (show (k : Int) = r by rw [← HRR.out, if_pos (by have := HK.out; omega), HK.out]), HE.out.trans x2⟩
    · have hkk : d = n := by omega
      have hkn : k = n := by omega
      have HK := Lib.hid hkk
      subst hkn
      clear hkk hext
      go_wp2
      go_ret
      exact ⟨retI' (show (-1 : Int) = r by rw [← HRR.out, if_neg (by have := HK.out; omega)]), HE.out⟩
set_option maxHeartbeats 1000000 in
theorem c_spec_l06Sum (a : Option Addr) (n cap : Nat) (zs : List Int) (w : World) {s : Int} (hs : sumTo (getI zs) n = s) (hn : n ≤ 1048576) (hb : ∀ i, i < n → -1000000000000 ≤ getI zs i ∧ getI zs i ≤ 1000000000000) (h : Reads w a n (ints zs)) :
    Calls Try.prog 79 #[.slice a n cap] w fun e w' => e = .returned (.int .i64 s) ∧ w' = w := by
  obtain ⟨hz, hrd⟩ := h.int
  have HR := Lib.hid hrd
  have HS := Lib.hid hs
  have HB := Lib.hid hb
  have hn' : (n : Int) ≤ 1048576 := by omega
  obtain ⟨f, hf⟩ : ∃ f : Nat → Int, getI zs = f := ⟨_, rfl⟩
  have HF := Lib.hid (show ∀ i, zs[i]?.getD 0 = f i from fun i => congrFun hf i)
  have HFF := Lib.hid hf
  clear h hz hrd hs hb hf
  go_enter Try.func79, Try.ntmps79
  go_wp2
  go_loop [3, 4] (fun s i => ∃ k : Nat, k ≤ n ∧ i = .int .i64 k ∧ s = .int .i64 (sumTo f k)) (fun _ i => n - (intOf i).toNat)
  case atStart => exact ⟨0, by omega, rfl, rfl⟩
  case round =>
    obtain ⟨k, hk, rfl, rfl⟩ := hrel
    by_cases hlt : k < n
    · rcases HR.out with h0 | ⟨b, off, rfl, hc⟩
      · omega
      have hcell := hc k hlt
      rw [HF.out] at hcell
      have HB' := Lib.hid (show ∀ i, i < n → -1000000000000 ≤ f i ∧ f i ≤ 1000000000000 by rw [← HFF.out]; exact HB.out)
      have b1 := sumTo_bd (f := f) (n := k) (fun i hi => HB'.out i (by omega))
      have b2 := HB'.out k hlt
      have HSS := Lib.hid (sumTo_succ f k)
      obtain ⟨x, hx⟩ : ∃ x, f k = x := ⟨_, rfl⟩
      obtain ⟨y, hy⟩ : ∃ y, sumTo f k = y := ⟨_, rfl⟩
      rw [hx] at hcell b2
      rw [hy] at b1 ⊢
      have x1 := b2.1
      have x2 := b2.2
      have y1 : -4611686018427387904 ≤ y := by omega
      have y2 : y ≤ 4611686018427387904 := by omega
      have HX := Lib.hid hx
      have HY := Lib.hid hy
      clear hc b1 b2 hx hy
      go_wp2
      go_round
      case rel => exact ⟨k + 1, by omega, by go_num, by first | (rw [HSS.out, HX.out, HY.out]; done) | (rw [HSS.out, HX.out, HY.out]; rfl) | (rw [HSS.out, HX.out, HY.out]; first | (congr 1; rw [IntKind.wrap_i64]; omega))⟩
      case measure => simp [intOf]; omega
    · obtain rfl : k = n := by omega
      have HE := Lib.hid (show sumTo f k = s by rw [← HFF.out]; exact HS.out)
      go_wp2
      go_ret
      exact ⟨by first | (rw [HE.out]; done) | (rw [HE.out]; rfl), rfl⟩
set_option maxHeartbeats 2000000 in
theorem c_spec_l06Late (qb : Nat) (L P : Int) (a1 : Option Addr) (cap1 : Nat) (ts : List Int) (a2 : Option Addr) (cap2 : Nat) (zs : List Int) (t : Int) (w : World) {r : Bool} (hr : lateB L P ts zs t = r) (hl : ts.length + zs.length ≤ 1048576) (h : Reads2 w a1 ts.length (ints ts) a2 zs.length (ints zs)) (hq : Box w qb 46 #[.int .i64 L, .int .i64 P, .slice a1 ts.length cap1, .slice a2 zs.length cap2]) :
    Calls Try.prog 77 #[.pointer (some ⟨qb, 0, none⟩), .int .i64 t] w fun e w' => e = .returned (.bool r) ∧ ∃ q, w' = w.drewN q := by
  have H := Lib.hid h
  have BX := Lib.hid hq
  obtain ⟨b0, b1, b2, b3⟩ := hq.four
  have hl1 : (ts.length : Int) ≤ 1048576 := by omega
  clear h hq
  cases hw : winB L P ts zs
  · have HF := Lib.hid (show r = false by rw [← hr]; unfold lateB; rw [hw]; rfl)
    have HW := Lib.hid hw
    clear hr hw
    go_enter Try.func77, Try.ntmps77
    go_wp2_with (go_at_call 83; refine (c_spec_l06Is qb L P a1 cap1 ts a2 cap2 zs _ HW.out hl H.out BX.out).mono ?_; rintro e w' ⟨rfl, q, rfl⟩)
    go_ret
    exact ⟨retB (by first | (rw [HF.out]; done) | (rw [HF.out]; rfl)), _, rfl⟩
  have HW := Lib.hid hw
  cases ht : inB 0 t 1000000
  · have HF := Lib.hid (show r = false by rw [← hr]; unfold lateB; rw [hw, ht]; rfl)
    have HT := Lib.hid ht
    clear hr hw ht
    go_enter Try.func77, Try.ntmps77
    go_wp2_with (first | (go_at_call 83; refine (c_spec_l06Is qb L P a1 cap1 ts a2 cap2 zs _ HW.out hl H.out BX.out).mono ?_; rintro e w' ⟨rfl, q, rfl⟩) | (go_at_call 133; refine (c_spec_l06Time t _ HT.out).mono ?_; rintro e w' ⟨rfl, rfl⟩))
    go_ret
    exact ⟨retB (by first | (rw [HF.out]; done) | (rw [HF.out]; rfl)), _, rfl⟩
  have HT := Lib.hid ht
  by_cases h0 : ts.length = 0
  · have HF := Lib.hid (show r = true by rw [← hr]; unfold lateB notLate; rw [hw, ht, decide_eq_true h0]; rfl)
    have h0' : (ts.length : Int) = 0 := by omega
    clear hr hw ht
    go_enter Try.func77, Try.ntmps77
    go_wp2_with (first | (go_at_call 83; refine (c_spec_l06Is qb L P a1 cap1 ts a2 cap2 zs _ HW.out hl H.out BX.out).mono ?_; rintro e w' ⟨rfl, q, rfl⟩) | (go_at_call 133; refine (c_spec_l06Time t _ HT.out).mono ?_; rintro e w' ⟨rfl, rfl⟩))
    go_ret
    exact ⟨retB (by first | (rw [HF.out]; done) | (rw [HF.out]; rfl)), _, rfl⟩
  obtain ⟨m, hm⟩ : ∃ m, ts.length = m + 1 := ⟨ts.length - 1, by omega⟩
  rcases H.out.r1.int.2 with hx | ⟨b, off, rfl, hc⟩
  · omega
  have c1 : ∀ q, (w.drewN q).cell? ⟨b, off + m, none⟩ = some (.int .i64 (getI ts m)) := fun q => (Ext.drewN w q).some (hc m (by omega))
  obtain ⟨x, hx⟩ : ∃ x, getI ts m = x := ⟨_, rfl⟩
  have HF := Lib.hid (show r = decide (x ≤ t) by rw [← hr]; unfold lateB notLate; rw [hw, ht, decide_eq_false h0, show ts.length - 1 = m by omega, hx]; rfl)
  rw [hx] at c1
  have hm' : (ts.length : Int) = (m : Int) + 1 := by omega
  have hml : (m : Int) < (ts.length : Int) := by omega
  clear hr hw ht hc hx
  by_cases hxt : x ≤ t
  · go_enter Try.func77, Try.ntmps77
    go_wp2_with (first | (go_at_call 83; refine (c_spec_l06Is qb L P _ cap1 ts a2 cap2 zs _ HW.out hl H.out BX.out).mono ?_; rintro e w' ⟨rfl, q, rfl⟩) | (go_at_call 133; refine (c_spec_l06Time t _ HT.out).mono ?_; rintro e w' ⟨rfl, rfl⟩))
    go_ret
    exact ⟨retB (by first | (rw [HF.out, decide_eq_true hxt]; done) | (rw [HF.out]; simp; done) | (rw [HF.out]; simp; omega)), _, rfl⟩
  · have hxt' : t < x := by omega
    go_enter Try.func77, Try.ntmps77
    go_wp2_with (first | (go_at_call 83; refine (c_spec_l06Is qb L P _ cap1 ts a2 cap2 zs _ HW.out hl H.out BX.out).mono ?_; rintro e w' ⟨rfl, q, rfl⟩) | (go_at_call 133; refine (c_spec_l06Time t _ HT.out).mono ?_; rintro e w' ⟨rfl, rfl⟩))
    go_ret
    exact ⟨retB (by first | (rw [HF.out]; simp; done) | (rw [HF.out]; simp; omega)), _, rfl⟩
end Go.Proofs.Ytplngjbllllanaa
