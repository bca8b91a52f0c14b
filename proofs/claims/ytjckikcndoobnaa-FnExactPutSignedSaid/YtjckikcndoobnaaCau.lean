/- CellsAt: both sides. -/
import Derived.Test.YtjckikcndoobnaaCat
import Derived.Test.YtjckikcndoobnaaPuc
namespace Go.Proofs.Ytjckikcndoobnaa
open Go.ChangeShapes Go.WideShapes Go.ChangeAt Go.RowKit
set_option linter.unusedVariables false
def atR (W D S : Int) (zs : List Int) (key : Int) : Int × Bool := if cellsB W D S zs && keyB key then (minL (fun i => zs[placeN W.toNat S key i]?.getD 0) (D.toNat - 1), true) else (0, false)
theorem atR_y {m d : Nat} {S key : Int} {zs : List Int} (h : CellsOk m d S zs) (hk : keyB key = true) : atR m d S zs key = (minL (fun i => zs[placeN m S key i]?.getD 0) (d - 1), true) := by
  unfold atR
  rw [h.cellsB, hk]
  simp
theorem atR_no {W D S key : Int} {zs : List Int} (h : (cellsB W D S zs && keyB key) = false) : atR W D S zs key = (0, false) := by unfold atR; rw [h]; rfl
theorem ret_i {a b : Int} (h : a = b) : Ending.returned (.int .i64 a) = .returned (.int .i64 b) := by rw [h]
theorem ret_ib {a b : Int} {c : Bool} (h : a = b) : Ending.returned (.tuple #[.int .i64 a, .bool c]) = .returned (.tuple #[.int .i64 b, .bool c]) := by rw [h]
set_option maxHeartbeats 1000000 in
theorem c_impl_countsAt_no (W D S : Int) (a : Option Addr) (n cap : Nat) (zs : List Int) (key : Int) (w : World) (hv : placesR W D S zs key = ([], false)) (hm : n ≤ maxLen) (h : Reads w a n (ints zs)) :
    Calls Try.prog 75 #[.agg #[.int .i64 W, .int .i64 D, .int .i64 S, .slice a n cap], .int .i64 key] w fun e w' => (∃ pa pc, e = .returned (.tuple #[.slice pa 0 pc, .bool false])) ∧ Ext w w' := by
  have H := Lib.hid h
  have HV := Lib.hid hv
  clear h hv
  go_enter Try.func75, Try.ntmps75
  go_wp2_with fail
  refine (c_impl_PlacesOf W D S _ n cap zs key _ HV.out hm (H.out.on (by (repeat (first | assumption | exact Ext.refl _ | (with_reducible refine Ext.stepS ?_ (by first | exact Nat.le_refl _ | (simp; done) | (simp; omega)) _) | (with_reducible refine Ext.stepN ?_ _) | (with_reducible refine Ext.stepD ?_) | (with_reducible refine Ext.stepA ?_ _)))))).mono ?_; rintro e wa ⟨pa, pc, rfl, o', x'⟩
  have X1 : Ext w wa := (Ext.alloc _ _).trans x'
  clear o' x'
  go_wp2
  go_loop [18] (fun i => i = .int .i64 0) (fun _ => 0)
  case atStart => rfl
  case round =>
    subst hrel
    go_wp2
    go_ret2
    exact ⟨⟨_, _, rfl⟩, X1⟩
set_option maxHeartbeats 1000000 in
theorem c_Min (a : Option Addr) (n cap : Nat) (zs : List Int) (w : World) (h0 : 0 < n) (hn : n ≤ 1048576) (h : Reads w a n (ints zs)) :
    Calls Try.prog 76 #[.slice a n cap] w fun e w' => e = .returned (.int .i64 (minL (fun i => zs[i]?.getD 0) (n - 1))) ∧ w = w' := by
  obtain ⟨hz, hr⟩ := h.int
  rcases hr with h1 | ⟨b, off, rfl, hc⟩
  · omega
  have HC := Lib.hid hc
  have hc0 := hc 0 h0
  have hn1 : (1 : Int) ≤ (n : Int) := by omega
  obtain ⟨f, hf⟩ : ∃ f : Nat → Int, (fun i => zs[i]?.getD 0) = f := ⟨_, rfl⟩
  have HF := Lib.hid (show ∀ i, zs[i]?.getD 0 = f i from fun i => congrFun hf i)
  rw [hf]
  rw [HF.out] at hc0
  simp only [Nat.add_zero] at hc0
  clear hc h hz hf
  go_enter Try.func76, Try.ntmps76
  go_wp2
  go_loop [3, 4] (fun m i => ∃ k : Nat, k + 1 ≤ n ∧ i = .int .i64 ((k + 1 : Nat) : Int) ∧ m = .int .i64 (minL f k)) (fun _ i => n - (intOf i).toNat)
  case atStart => exact ⟨0, by omega, rfl, rfl⟩
  case round =>
    obtain ⟨k, hk, rfl, rfl⟩ := hrel
    by_cases hlt : k + 1 < n
    · have hcell := HC.out (k + 1) hlt
      rw [HF.out] at hcell
      obtain ⟨x, hx⟩ : ∃ x, f (k + 1) = x := ⟨_, rfl⟩
      obtain ⟨y, hy⟩ : ∃ y, minL f k = y := ⟨_, rfl⟩
      have HM := Lib.hid (show minL f (k + 1) = min y x by show min (minL f k) (f (k + 1)) = _; rw [hx, hy])
      rw [hx] at hcell
      rw [hy]
      clear hx hy
      go_wp2
      all_goals
        go_round
        case rel => exact ⟨k + 1, by omega, by go_num, by rw [HM.out]; first | rfl | (congr 1; omega)⟩
        case measure => simp [intOf]; omega
    · obtain rfl : n = k + 1 := by omega
      go_wp2
      go_ret
      exact ⟨rfl, rfl⟩
set_option maxHeartbeats 1000000 in
theorem c_impl_CellsAt (W D S : Int) (a : Option Addr) (n cap : Nat) (zs : List Int) (key : Int) (w : World) {v : Int} {b : Bool} (hv : atR W D S zs key = (v, b)) (hm : n ≤ maxLen) (h : Reads w a n (ints zs)) :
    Calls Try.prog 36 #[.agg #[.int .i64 W, .int .i64 D, .int .i64 S, .slice a n cap], .int .i64 key] w fun e w' => e = .returned (.tuple #[.int .i64 v, .bool b]) ∧ Ext w w' := by
  have H := Lib.hid h
  by_cases hp : cellsB W D S zs = true ∧ keyB key = true
  · obtain ⟨m, d, rfl, rfl, ok⟩ := cells_ok hp.1
    rw [atR_y ok hp.2] at hv
    simp only [Prod.mk.injEq] at hv
    obtain ⟨rfl, rfl⟩ := hv
    have hd1 := ok.d1
    have hd6 := ok.d6
    have OK := Lib.hid ok
    have HK := Lib.hid hp.2
    have HM := Lib.hid (show minL (fun i => (atZ m d S zs key)[i]?.getD 0) (d - 1) = minL (fun i => zs[placeN m S key i]?.getD 0) (d - 1) from minL_congr _ fun i hi => atZ_get m d S key zs i (by omega))
    clear ok hp h
    go_enter Try.func36, Try.ntmps36
    go_wp2_with fail
    refine (c_impl_countsAt m d S _ _ cap zs key _ OK.out HK.out (H.out.on (by (repeat (first | assumption | exact Ext.refl _ | (with_reducible refine Ext.stepS ?_ (by first | exact Nat.le_refl _ | (simp; done) | (simp; omega)) _) | (with_reducible refine Ext.stepN ?_ _) | (with_reducible refine Ext.stepD ?_) | (with_reducible refine Ext.stepA ?_ _)))))).mono ?_; rintro e wa ⟨pa, pc, rfl, o', x'⟩
    have X1 : Ext w wa := (Ext.alloc _ _).trans x'
    have O := Lib.hid o'
    clear o' x'
    go_wp2_with fail
    refine (c_Min _ _ _ (atZ m d S zs key) _ (by omega) (by omega) O.out.reads).mono ?_; rintro e w' ⟨rfl, rfl⟩
    go_wp2
    go_ret2
    exact ⟨ret_ib HM.out, X1⟩
  · rw [atR_no (both_no hp)] at hv
    simp only [Prod.mk.injEq] at hv
    obtain ⟨rfl, rfl⟩ := hv
    have HV := Lib.hid (placesR_no (both_no hp))
    clear hp h
    go_enter Try.func36, Try.ntmps36
    go_wp2_with fail
    refine (c_impl_countsAt_no W D S _ _ cap zs key _ HV.out hm (H.out.on (by (repeat (first | assumption | exact Ext.refl _ | (with_reducible refine Ext.stepS ?_ (by first | exact Nat.le_refl _ | (simp; done) | (simp; omega)) _) | (with_reducible refine Ext.stepN ?_ _) | (with_reducible refine Ext.stepD ?_) | (with_reducible refine Ext.stepA ?_ _)))))).mono ?_; rintro e wa ⟨⟨pa, pc, rfl⟩, x'⟩
    have X1 : Ext w wa := (Ext.alloc _ _).trans x'
    clear x'
    go_wp2
    go_ret2
    exact ⟨rfl, X1⟩
theorem c_spec_l00Min (x y z : Int) (w : World) (h : min x y = z) : Calls Try.prog 95 #[.int .i64 x, .int .i64 y] w fun e w' => e = .returned (.int .i64 z) ∧ w' = w := by
  by_cases hl : x < y
  · have H := Lib.hid (show x = z by omega)
    clear h
    go_enter Try.func95, Try.ntmps95
    go_wp2
    go_ret
    exact ⟨by rw [← H.out]; rfl, rfl⟩
  · have H := Lib.hid (show y = z by omega)
    clear h
    go_enter Try.func95, Try.ntmps95
    go_wp2
    go_ret
    exact ⟨by rw [← H.out]; rfl, rfl⟩
theorem c_spec_l03Place_0 (b m : Nat) (D S key : Int) (a : Option Addr) (n cap : Nat) (w : World) (h1 : 1 ≤ m) (h2 : m ≤ 64) (hs : keyB S = true) (hk : keyB key = true)
    (hb : Box w b 27 #[.int .i64 m, .int .i64 D, .int .i64 S, .slice a n cap]) {p : Nat} (hp : placeN m S key 0 = p) :
    Calls Try.prog 62 #[.pointer (some ⟨b, 0, none⟩), .int .i64 key, .int .i64 0] w fun e w' => e = .returned (.int .i64 (p : Nat)) ∧ ∃ q, w' = w.drewN q := by
  subst hp; exact c_spec_l03Place b m D S key a n cap 0 w h1 h2 (by omega) hs hk hb
theorem c_spec_l03Place_v (b m : Nat) (D S key : Int) (a : Option Addr) (n cap i : Nat) (w : World) (h1 : 1 ≤ m) (h2 : m ≤ 64) (hi : i ≤ 6) (hs : keyB S = true) (hk : keyB key = true)
    (hb : Box w b 27 #[.int .i64 m, .int .i64 D, .int .i64 S, .slice a n cap]) {p : Nat} (hp : placeN m S key i = p) :
    Calls Try.prog 62 #[.pointer (some ⟨b, 0, none⟩), .int .i64 key, .int .i64 i] w fun e w' => e = .returned (.int .i64 (p : Nat)) ∧ ∃ q, w' = w.drewN q := by
  subst hp; exact c_spec_l03Place b m D S key a n cap i w h1 h2 hi hs hk hb
theorem Box.drew' {w : World} {b : Nat} {t : TypeId} {vs : Array Value} (h : Box w b t vs) (n : Nat) : Box (w.drewN n) b t vs := h.on (Ext.drewN w n)
set_option maxHeartbeats 4000000 in
theorem c_spec_l03At (b m d : Nat) (S key : Int) (a : Option Addr) (n cap : Nat) (zs : List Int) (w : World) (ok : CellsOk m d S zs) (hk : keyB key = true) (hb : Box w b 27 #[.int .i64 m, .int .i64 d, .int .i64 S, .slice a n cap]) (h : Reads w a n (ints zs)) :
    Calls Try.prog 72 #[.pointer (some ⟨b, 0, none⟩), .int .i64 key] w fun e w' => e = .returned (.int .i64 (minL (fun i => zs[placeN m S key i]?.getD 0) (d - 1))) ∧ ∃ q, w' = w.drewN q := by
  have hd1 := ok.d1
  have hd6 := ok.d6
  have OK := Lib.hid ok
  have HK := Lib.hid hk
  have HB := Lib.hid hb
  obtain ⟨hz, hr⟩ := h.int
  subst hz
  have hn0 : 0 < zs.length := by rw [ok.len]; exact Nat.mul_pos (by have := ok.m2; omega) ok.d1
  have hn4 := ok.le
  rcases hr with h1 | ⟨ab, ao, rfl, hc⟩
  · omega
  have HC := Lib.hid hc
  obtain ⟨f, hf⟩ : ∃ f : Nat → Int, (fun i => zs[placeN m S key i]?.getD 0) = f := ⟨_, rfl⟩
  have HF := Lib.hid (show ∀ i, zs[placeN m S key i]?.getD 0 = f i from fun i => congrFun hf i)
  rw [hf]
  obtain ⟨p, hp⟩ : ∃ p, placeN m S key 0 = p := ⟨_, rfl⟩
  have hpl : p < zs.length := by rw [← hp, ok.len]; exact placeN_lt S key (by have := ok.m2; omega) (by omega)
  have hc0 := hc p hpl
  rw [← hp, HF.out, hp] at hc0
  have HP := Lib.hid hp
  have hpl' : (p : Int) < (zs.length : Int) := by omega
  have hp0 : (0 : Int) ≤ (p : Int) := by omega
  obtain ⟨b0, b1, b2, b3⟩ := hb.four
  clear ok hk hb h hc hf hp
  go_enter Try.func72, Try.ntmps72
  go_wp2
  go_quiet ((go_at_call 62; exact Calls.quiet_of (c_spec_l03Place_0 b m d S key _ _ cap _ (by have := OK.out.m2; omega) OK.out.m64 OK.out.key HK.out (HB.out.drew' _) HP.out)))
  clear hc0 hpl' hp0
  go_wp2
  go_loopw [5, 6] (fun v i wr => ∃ k q : Nat, k + 1 ≤ d ∧ i = .int .i64 ((k + 1 : Nat) : Int) ∧ v = .int .i64 (minL f k) ∧ wr = w.drewN q) (fun _ i _ => d - (intOf i).toNat)
  case atStart => exact ⟨0, _, by omega, rfl, rfl, rfl⟩
  case round =>
    obtain ⟨k, q, hk, rfl, rfl, hw⟩ := hrel
    have HW := Lib.hid hw
    have HBR := Lib.hid (show Box wr b 27 #[.int .i64 m, .int .i64 d, .int .i64 S, .slice (some ⟨ab, ao, none⟩) zs.length cap] by rw [hw]; exact HB.out.drew' q)
    obtain ⟨c0, c1, c2, c3⟩ := HBR.out.four
    by_cases hlt : k + 1 < d
    · obtain ⟨p2, hp2⟩ : ∃ p, placeN m S key (k + 1) = p := ⟨_, rfl⟩
      have hpl2 : p2 < zs.length := by rw [← hp2, OK.out.len]; exact placeN_lt S key (by have := OK.out.m2; omega) hlt
      have hcell : wr.cell? ⟨ab, ao + p2, none⟩ = some (.int .i64 (f (k + 1))) := by
        rw [hw, ← HF.out, hp2]; exact HC.out p2 hpl2
      obtain ⟨x, hx⟩ : ∃ x, f (k + 1) = x := ⟨_, rfl⟩
      obtain ⟨y, hy⟩ : ∃ y, minL f k = y := ⟨_, rfl⟩
      obtain ⟨z, hz⟩ : ∃ z, min y x = z := ⟨_, rfl⟩
      have HM := Lib.hid (show minL f (k + 1) = z by show min (minL f k) (f (k + 1)) = _; rw [hx, hy, hz])
      have HZ := Lib.hid hz
      have HP2 := Lib.hid hp2
      rw [hx] at hcell
      rw [hy]
      have hpl3 : (p2 : Int) < (zs.length : Int) := by omega
      have hp3 : (0 : Int) ≤ (p2 : Int) := by omega
      clear hx hy hz hp2 hw b0 b1 b2 b3
      go_wp2
      go_quiet (first | (go_at_call 62; exact Calls.quiet_of (c_spec_l03Place_v b m d S key _ _ cap (k + 1) _ (by have := OK.out.m2; omega) OK.out.m64 (by omega) OK.out.key HK.out (HBR.out.drew' _) HP2.out)) | (go_at_call 95; exact Calls.quiet_of_same (c_spec_l00Min y x z _ HZ.out)))
      go_wp2
      go_roundw
      case rel => exact ⟨k + 1, _, by omega, by go_num, by rw [HM.out], by rw [HW.out, World.drewN_drewN]⟩
      case measure => simp [intOf]; omega
    · obtain rfl : d = k + 1 := by omega
      clear hw
      go_wp2
      go_ret
      exact ⟨rfl, _, HW.out⟩
set_option maxHeartbeats 1000000 in
theorem c_spec_CellsAt (W D S : Int) (a : Option Addr) (n cap : Nat) (zs : List Int) (key : Int) (w : World) {v : Int} {b : Bool} (hv : atR W D S zs key = (v, b)) (hm : n ≤ maxLen) (h : Reads w a n (ints zs)) :
    Calls Try.prog 35 #[.agg #[.int .i64 W, .int .i64 D, .int .i64 S, .slice a n cap], .int .i64 key] w fun e w' => e = .returned (.tuple #[.int .i64 v, .bool b]) ∧ Ext w w' := by
  have H := Lib.hid h
  have BX := Lib.hid (Box.alloc w #[.int .i64 W, .int .i64 D, .int .i64 S, .slice a n cap] 27)
  cases hc : cellsB W D S zs
  · rw [atR_no (by rw [hc]; rfl)] at hv
    simp only [Prod.mk.injEq] at hv
    obtain ⟨rfl, rfl⟩ := hv
    have HC := Lib.hid hc
    clear hc h
    go_enter Try.func35, Try.ntmps35
    go_wp2_with (go_at_call 52; refine (c_spec_l03Is _ W D S a n cap zs _ HC.out BX.out hm (H.out.on (by (repeat (first | assumption | exact Ext.refl _ | (with_reducible refine Ext.stepS ?_ (by first | exact Nat.le_refl _ | (simp; done) | (simp; omega)) _) | (with_reducible refine Ext.stepN ?_ _) | (with_reducible refine Ext.stepD ?_) | (with_reducible refine Ext.stepA ?_ _)))))).mono ?_; rintro e u1 ⟨rfl, q, rfl⟩)
    go_ret2
    exact ⟨rfl, by (repeat (first | assumption | exact Ext.refl _ | (with_reducible refine Ext.stepS ?_ (by first | exact Nat.le_refl _ | (simp; done) | (simp; omega)) _) | (with_reducible refine Ext.stepN ?_ _) | (with_reducible refine Ext.stepD ?_) | (with_reducible refine Ext.stepA ?_ _)))⟩
  · cases hk : keyB key
    · rw [atR_no (by rw [hk, Bool.and_false])] at hv
      simp only [Prod.mk.injEq] at hv
      obtain ⟨rfl, rfl⟩ := hv
      have HC := Lib.hid hc
      have HK := Lib.hid hk
      clear hc hk h
      go_enter Try.func35, Try.ntmps35
      go_wp2_with (first | (go_at_call 52; refine (c_spec_l03Is _ W D S a n cap zs _ HC.out BX.out hm (H.out.on (by (repeat (first | assumption | exact Ext.refl _ | (with_reducible refine Ext.stepS ?_ (by first | exact Nat.le_refl _ | (simp; done) | (simp; omega)) _) | (with_reducible refine Ext.stepN ?_ _) | (with_reducible refine Ext.stepD ?_) | (with_reducible refine Ext.stepA ?_ _)))))).mono ?_; rintro e u1 ⟨rfl, q, rfl⟩) | (go_at_call 61; refine (c_spec_l02Key_e key _ HK.out).mono ?_; rintro e w' ⟨rfl, rfl⟩))
      go_ret2
      exact ⟨rfl, by (repeat (first | assumption | exact Ext.refl _ | (with_reducible refine Ext.stepS ?_ (by first | exact Nat.le_refl _ | (simp; done) | (simp; omega)) _) | (with_reducible refine Ext.stepN ?_ _) | (with_reducible refine Ext.stepD ?_) | (with_reducible refine Ext.stepA ?_ _)))⟩
    · obtain ⟨m, d, rfl, rfl, ok⟩ := cells_ok hc
      rw [atR_y ok hk] at hv
      simp only [Prod.mk.injEq] at hv
      obtain ⟨rfl, rfl⟩ := hv
      have HC := Lib.hid hc
      have HK := Lib.hid hk
      have OK := Lib.hid ok
      clear hc hk h ok
      go_enter Try.func35, Try.ntmps35
      go_wp2_with (first | (go_at_call 52; refine (c_spec_l03Is _ m d S a n cap zs _ HC.out BX.out hm (H.out.on (by (repeat (first | assumption | exact Ext.refl _ | (with_reducible refine Ext.stepS ?_ (by first | exact Nat.le_refl _ | (simp; done) | (simp; omega)) _) | (with_reducible refine Ext.stepN ?_ _) | (with_reducible refine Ext.stepD ?_) | (with_reducible refine Ext.stepA ?_ _)))))).mono ?_; rintro e u1 ⟨rfl, q, rfl⟩) | (go_at_call 61; refine (c_spec_l02Key_e key _ HK.out).mono ?_; rintro e w' ⟨rfl, rfl⟩))
      refine (c_spec_l03At w.heap.size m d S key a n cap zs _ OK.out HK.out (BX.out.on (by (repeat (first | assumption | exact Ext.refl _ | (with_reducible refine Ext.stepS ?_ (by first | exact Nat.le_refl _ | (simp; done) | (simp; omega)) _) | (with_reducible refine Ext.stepN ?_ _) | (with_reducible refine Ext.stepD ?_) | (with_reducible refine Ext.stepA ?_ _))))) (H.out.on (by (repeat (first | assumption | exact Ext.refl _ | (with_reducible refine Ext.stepS ?_ (by first | exact Nat.le_refl _ | (simp; done) | (simp; omega)) _) | (with_reducible refine Ext.stepN ?_ _) | (with_reducible refine Ext.stepD ?_) | (with_reducible refine Ext.stepA ?_ _)))))).mono ?_; rintro e u2 ⟨rfl, q2, rfl⟩
      go_wp2
      go_ret2
      exact ⟨rfl, by (repeat (first | assumption | exact Ext.refl _ | (with_reducible refine Ext.stepS ?_ (by first | exact Nat.le_refl _ | (simp; done) | (simp; omega)) _) | (with_reducible refine Ext.stepN ?_ _) | (with_reducible refine Ext.stepD ?_) | (with_reducible refine Ext.stepA ?_ _)))⟩
end Go.Proofs.Ytjckikcndoobnaa
