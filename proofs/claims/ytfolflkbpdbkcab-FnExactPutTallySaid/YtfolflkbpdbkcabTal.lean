/- Tallies: valid, on both sides. -/
import Derived.Test.YtfolflkbpdbkcabGri
namespace Go.Proofs.Ytfolflkbpdbkcab
open Go.ChangeShapes Go.WideShapes Go.ChangeAt Go.RowKit
set_option linter.unusedVariables false
set_option maxHeartbeats 4000000 in
theorem c_spec_l04Tally (b : Nat) (R S : Int) (a : Option Addr) (n cap : Nat) (zs : List Int) (w : World) {r : Bool} (hr : tallyB R S zs = r)
    (hb : Box w b 27 #[.int .i64 R, .int .i64 S, .slice a n cap]) (hm : n ≤ maxLen) (h : Reads w a n (ints zs)) :
    Calls Try.prog 56 #[.pointer (some ⟨b, 0, none⟩)] w fun e w' => e = .returned (.bool r) ∧ ∃ q, w' = w.drewN q := by
  obtain ⟨h0, h1, h2⟩ := hb.three
  obtain ⟨hz, hrd⟩ := h.int
  unfold maxLen at hm
  clear hb h
  cases e1 : inB 1 R 8
  · have H1 := Lib.hid e1
    have HR := Lib.hid (show r = false by rw [← hr]; exact tallyB_1 (gridB_1 e1))
    clear e1 hr hz hrd
    go_enter Try.func56, Try.ntmps56
    go_wp2_with (go_at_call 96; refine (c_l00In_e R 1 8 _ H1.out).mono ?_; rintro e w' ⟨rfl, rfl⟩)
    go_ret
    exact ⟨retB HR.out.symm, 0, rfl⟩
  have H1 := Lib.hid e1
  cases e2 : keyB S
  · have H2 := Lib.hid e2
    have HR := Lib.hid (show r = false by rw [← hr]; exact tallyB_1 (gridB_2 e2))
    clear e1 e2 hr hz hrd
    go_enter Try.func56, Try.ntmps56
    go_wp2_with (first | (go_at_call 96; refine (c_l00In_e R 1 8 _ H1.out).mono ?_; rintro e w' ⟨rfl, rfl⟩) | (go_at_call 66; refine (c_spec_l02Key_q S _ H2.out).mono ?_; rintro e w' ⟨rfl, rfl⟩))
    go_ret
    exact ⟨retB HR.out.symm, 0, rfl⟩
  have H2 := Lib.hid e2
  by_cases h3 : n < 1
  · have h3' : (n : Int) < 1 := by omega
    have HR := Lib.hid (show r = false by rw [← hr]; exact tallyB_1 (gridB_3 (in_lo (by omega))))
    clear e1 e2 hr hz hrd h3
    go_enter Try.func56, Try.ntmps56
    go_wp2_with (first | (go_at_call 96; refine (c_l00In_e R 1 8 _ H1.out).mono ?_; rintro e w' ⟨rfl, rfl⟩) | (go_at_call 66; refine (c_spec_l02Key_q S _ H2.out).mono ?_; rintro e w' ⟨rfl, rfl⟩))
    go_ret
    exact ⟨retB HR.out.symm, 0, rfl⟩
  by_cases h4 : 512 < n
  · have h4' : (512 : Int) < (n : Int) := by omega
    have HR := Lib.hid (show r = false by rw [← hr]; exact tallyB_1 (gridB_3 (in_hi (by omega))))
    clear e1 e2 hr hz hrd h4
    go_enter Try.func56, Try.ntmps56
    go_wp2_with (first | (go_at_call 96; refine (c_l00In_e R 1 8 _ H1.out).mono ?_; rintro e w' ⟨rfl, rfl⟩) | (go_at_call 66; refine (c_spec_l02Key_q S _ H2.out).mono ?_; rintro e w' ⟨rfl, rfl⟩))
    go_ret
    exact ⟨retB HR.out.symm, 0, rfl⟩
  have h3' : (1 : Int) ≤ (n : Int) := by omega
  have h4' : (n : Int) ≤ 512 := by omega
  have HB := Lib.hid (show upB 1000000 zs = r by rw [← hr]; exact (tallyB_2 (by rw [gridB_yes e1 (in_yes (by omega) (by omega)), e2])).symm)
  have HZ := Lib.hid hz
  have HR := Lib.hid hrd
  clear e1 e2 hr hz hrd h3 h4
  go_enter Try.func56, Try.ntmps56
  go_wp2_with (first | (go_at_call 96; refine (c_l00In_e R 1 8 _ H1.out).mono ?_; rintro e w' ⟨rfl, rfl⟩) | (go_at_call 66; refine (c_spec_l02Key_q S _ H2.out).mono ?_; rintro e w' ⟨rfl, rfl⟩))
  go_loop [3] (fun i => ∃ k : Nat, k ≤ n ∧ i = .int .i64 k ∧ ∀ j, j < k → inB 0 (zs[j]?.getD 0) 1000000 = true) (fun i => n - (intOf i).toNat)
  case atStart => exact ⟨0, Nat.zero_le _, rfl, fun j hj => absurd hj (Nat.not_lt_zero _)⟩
  case round =>
    obtain ⟨k, hk, rfl, hall⟩ := hrel
    have HA := Lib.hid hall
    clear hall
    by_cases hlt : k < n
    · rcases HR.out with he | ⟨g, off, rfl, hc⟩
      · omega
      have hcell := hc k hlt
      obtain ⟨x, hx⟩ : ∃ x, zs[k]?.getD 0 = x := ⟨_, rfl⟩
      have HX := Lib.hid hx
      rw [hx] at hcell
      clear hc hx
      cases hin : inB 0 x 1000000
      · have HI := Lib.hid hin
        clear hin
        go_wp2_with (go_at_call 96; refine (c_l00In_e x 0 1000000 _ HI.out).mono ?_; rintro e w' ⟨rfl, rfl⟩)
        go_ret
        exact ⟨retB (by rw [← HB.out]; exact (upB_no (by rw [HZ.out]; exact hlt) HX.out HI.out).symm), 0, rfl⟩
      · have HI := Lib.hid hin
        clear hin
        go_wp2_with (go_at_call 96; refine (c_l00In_e x 0 1000000 _ HI.out).mono ?_; rintro e w' ⟨rfl, rfl⟩)
        go_round
        case rel => exact ⟨k + 1, by omega, by go_num, fun j hj => by
          by_cases e : j = k
          · subst e; rw [HX.out]; exact HI.out
          · exact HA.out j (by omega)⟩
        case measure => simp [intOf]; omega
    · obtain rfl : k = n := by omega
      go_wp2
      go_ret
      exact ⟨retB (by rw [← HB.out]; exact (upB_mk (by rw [HZ.out]; exact HA.out)).symm), 0, rfl⟩
theorem c_spec_ValidTally (R S : Int) (a : Option Addr) (n cap : Nat) (zs : List Int) (w : World) {r : Bool} (hr : tallyB R S zs = r) (hm : n ≤ maxLen) (h : Reads w a n (ints zs)) :
    Calls Try.prog 16 #[.agg #[.int .i64 R, .int .i64 S, .slice a n cap]] w fun e w' => e = .returned (.bool r) ∧ Ext w w' := by
  have H := Lib.hid h
  have HR := Lib.hid hr
  clear h hr
  go_enter Try.func16, Try.ntmps16
  go_wp2_with (go_at_call 56; refine (c_spec_l04Tally _ R S a n cap zs _ HR.out (Box.alloc _ _ _) hm (H.out.on (Ext.alloc _ _))).mono ?_; rintro e w' ⟨rfl, q, rfl⟩)
  go_ret
  exact ⟨rfl, ((Ext.refl _).stepA _).stepN _⟩
set_option maxHeartbeats 1000000 in
theorem c_impl_ValidTally (R S : Int) (a : Option Addr) (n cap : Nat) (zs : List Int) (w : World) {r : Bool} (hr : tallyB R S zs = r) (hm : n ≤ maxLen) (h : Reads w a n (ints zs)) :
    Calls Try.prog 18 #[.agg #[.int .i64 R, .int .i64 S, .slice a n cap]] w fun e w' => e = .returned (.bool r) ∧ Ext w w' := by
  have H := Lib.hid h
  have hz : zs.length = n := h.int.1
  have HB := Lib.hid (Box.alloc w #[.int .i64 R, .int .i64 S, .slice a n cap] 27)
  clear h
  cases hs : gridB R S n
  · have HS := Lib.hid hs
    have HR := Lib.hid (show r = false by rw [← hr]; exact tallyB_1 (by rw [hz]; exact hs))
    clear hs hr hz
    go_enter Try.func18, Try.ntmps18
    go_wp2_with fail
    refine (c_impl_gridOfTally R S a n cap _).mono ?_; rintro e u1 ⟨rfl, x1⟩
    go_wp2_with fail
    refine (c_impl_isGrid R S n _ HS.out).mono ?_; rintro e u2 ⟨rfl, x2⟩
    go_wp2
    go_ret
    exact ⟨retB HR.out.symm, ((Ext.alloc _ _).trans x1).trans x2⟩
  · have HS := Lib.hid hs
    have HR := Lib.hid (show upB 1000000 zs = r by rw [← hr]; exact (tallyB_2 (by rw [hz]; exact hs)).symm)
    clear hs hr hz
    go_enter Try.func18, Try.ntmps18
    go_wp2_with fail
    refine (c_impl_gridOfTally R S a n cap _).mono ?_; rintro e u1 ⟨rfl, x1⟩
    go_wp2_with fail
    refine (c_impl_isGrid R S n _ HS.out).mono ?_; rintro e u2 ⟨rfl, x2⟩
    obtain ⟨b0, b1, b2⟩ := ((HB.out.on x1).on x2).three
    have X := Lib.hid (((Ext.alloc w _).trans x1).trans x2)
    clear x1 x2
    go_wp2_with (go_at_call 60; refine (c_impl_areUpTo a n cap zs 1000000 _ (by decide) (by decide) hm HR.out (H.out.on X.out)).mono ?_; rintro e w' ⟨rfl, rfl⟩)
    go_ret
    exact ⟨rfl, X.out⟩
/-- how often a key is in a tally, at most -/
def inTallyR (R S : Int) (zs : List Int) (key : Int) : Int × Bool := if tallyB R S zs && keyB key then (minT (fun k => zs[gplace S key zs.length k]?.getD 0) R.toNat, true) else (0, false)
theorem inTallyR_1 {R S key : Int} {zs : List Int} (h : tallyB R S zs = false) : inTallyR R S zs key = (0, false) := by unfold inTallyR; rw [h]; rfl
theorem inTallyR_2 {R S key : Int} {zs : List Int} (h : keyB key = false) : inTallyR R S zs key = (0, false) := by unfold inTallyR; rw [h, Bool.and_false]; rfl
theorem inTallyR_y {r : Nat} {S key : Int} {zs : List Int} (h : tallyB r S zs = true) (hk : keyB key = true) : inTallyR r S zs key = (minT (fun k => zs[gplace S key zs.length k]?.getD 0) r, true) := by
  unfold inTallyR; rw [h, hk]; simp
theorem minT_bd {f : Nat → Int} (h : ∀ i, 0 ≤ f i) : ∀ k, 0 ≤ minT f k ∧ minT f k ≤ 1000000
  | 0 => by show (0 : Int) ≤ 1000000 ∧ (1000000 : Int) ≤ 1000000; omega
  | k + 1 => by
    have h1 := minT_bd h k
    have h2 := h k
    show 0 ≤ min (minT f k) (f k) ∧ min (minT f k) (f k) ≤ 1000000
    omega
set_option maxHeartbeats 2000000 in
theorem c_impl_InTally (R S : Int) (a : Option Addr) (n cap : Nat) (zs : List Int) (key : Int) (w : World) {v : Int} {b : Bool} (hv : inTallyR R S zs key = (v, b)) (hm : n ≤ maxLen) (h : Reads w a n (ints zs)) :
    Calls Try.prog 27 #[.agg #[.int .i64 R, .int .i64 S, .slice a n cap], .int .i64 key] w fun e w' => e = .returned (.tuple #[.int .i64 v, .bool b]) ∧ Ext w w' := by
  have H := Lib.hid h
  have BX := Lib.hid (Box.alloc w #[.int .i64 R, .int .i64 S, .slice a n cap] 27)
  have hn := h.int.1
  clear h
  cases hc : tallyB R S zs
  · rw [inTallyR_1 hc] at hv
    simp only [Prod.mk.injEq] at hv
    obtain ⟨rfl, rfl⟩ := hv
    have HC := Lib.hid hc
    clear hc hn
    go_enter Try.func27, Try.ntmps27
    go_wp2_with fail
    refine (c_impl_ValidTally R S a n cap zs _ HC.out hm (H.out.on (Ext.alloc _ _))).mono ?_; rintro e u1 ⟨rfl, x1⟩
    have X := (Ext.alloc _ _).trans x1
    clear x1
    go_wp2
    go_ret2
    exact ⟨rfl, X⟩
  cases hk : keyB key
  · rw [inTallyR_2 hk] at hv
    simp only [Prod.mk.injEq] at hv
    obtain ⟨rfl, rfl⟩ := hv
    have HC := Lib.hid hc
    have HK := Lib.hid hk
    clear hc hk hn
    go_enter Try.func27, Try.ntmps27
    go_wp2_with fail
    refine (c_impl_ValidTally R S a n cap zs _ HC.out hm (H.out.on (Ext.alloc _ _))).mono ?_; rintro e u1 ⟨rfl, x1⟩
    have X := (Ext.alloc _ _).trans x1
    clear x1
    go_wp2_with (go_at_call 69; refine (c_impl_IsKey_q key _ HK.out).mono ?_; rintro e w' ⟨rfl, rfl⟩)
    go_ret2
    exact ⟨rfl, X⟩
  obtain ⟨r, rfl, ok, up⟩ := tally_ok hc
  rw [inTallyR_y hc hk] at hv
  simp only [Prod.mk.injEq] at hv
  obtain ⟨hv, rfl⟩ := hv
  have HV := Lib.hid hv
  have OK := Lib.hid ok
  have UP := Lib.hid up
  have HC := Lib.hid hc
  have HK := Lib.hid hk
  have hr8 := ok.r8
  subst hn
  clear hc hk hv ok up
  go_enter Try.func27, Try.ntmps27
  go_wp2_with fail
  refine (c_impl_ValidTally r S a zs.length cap zs _ HC.out hm (H.out.on (Ext.alloc _ _))).mono ?_; rintro e u1 ⟨rfl, x1⟩
  have X := Lib.hid ((Ext.alloc _ _).trans x1)
  have BX1 := Lib.hid (BX.out.on x1)
  obtain ⟨b0, b1, b2⟩ := BX1.out.three
  clear x1
  go_wp2_with (go_at_call 69; refine (c_impl_IsKey_q key _ HK.out).mono ?_; rintro e w' ⟨rfl, rfl⟩)
  refine (c_impl_gridOfTally r S a zs.length cap _).mono ?_; rintro e u2 ⟨rfl, x2⟩
  have X2 := Lib.hid (X.out.trans x2)
  have BX2 := Lib.hid (BX1.out.on x2)
  clear x2
  go_wp2_with fail
  refine (c_impl_placesIn r zs.length S key _ OK.out HK.out).mono ?_; rintro e u3 ⟨pa, pc, rfl, o', x3⟩
  have X3 := Lib.hid (X2.out.trans x3)
  have BX3 := Lib.hid (BX2.out.on x3)
  have O := Lib.hid o'
  clear x3 o' b0 b1 b2
  obtain ⟨b0, b1, b2⟩ := BX3.out.three
  go_wp2_with fail
  go_loop [6, 22] (fun v i => ∃ k : Nat, k ≤ r ∧ i = .int .i64 k ∧ v = .int .i64 (minT (fun k => zs[gplace S key zs.length k]?.getD 0) k)) (fun _ i => r - (intOf i).toNat)
  case atStart => exact ⟨0, Nat.zero_le _, rfl, rfl⟩
  case round =>
    obtain ⟨k, hk, rfl, rfl⟩ := hrel
    have hbd := minT_bd (f := fun k => zs[gplace S key zs.length k]?.getD 0) (fun i => (upB_at UP.out (gplace_lt S key i OK.out.n1)).1) k
    by_cases hlt : k < r
    · obtain ⟨p, hp⟩ : ∃ p, gplace S key zs.length k = p := ⟨_, rfl⟩
      have hpl : p < zs.length := by rw [← hp]; exact gplace_lt S key k OK.out.n1
      obtain ⟨x, hx⟩ : ∃ x, zs[p]?.getD 0 = x := ⟨_, rfl⟩
      obtain ⟨x0, x1⟩ := upB_at UP.out hpl
      rw [hx] at x0 x1
      have HM := Lib.hid (show minT (fun k => zs[gplace S key zs.length k]?.getD 0) (k + 1) = min (minT (fun k => zs[gplace S key zs.length k]?.getD 0) k) x by show min _ (zs[gplace S key zs.length k]?.getD 0) = _; rw [hp, hx])
      obtain ⟨pb, po, rfl, hpc⟩ : ∃ b off, pa = some ⟨b, off, none⟩ ∧ u3.cell? ⟨b, off + k, none⟩ = some (.int .i64 (p : Int)) := by
        obtain ⟨_, hq⟩ := O.out.reads.int
        rcases hq with h0 | ⟨b', off', rfl, hq⟩
        · omega
        · exact ⟨b', off', rfl, by rw [hq k hlt, gplaces_get S key zs.length r k hlt, hp]⟩
      obtain ⟨ab, ao, rfl, hac⟩ : ∃ b off, a = some ⟨b, off, none⟩ ∧ u3.cell? ⟨b, off + p, none⟩ = some (.int .i64 x) := by
        obtain ⟨_, hq⟩ := (H.out.on X3.out).int
        rcases hq with h0 | ⟨b', off', rfl, hq⟩
        · omega
        · exact ⟨b', off', rfl, by rw [hq p hpl, hx]⟩
      obtain ⟨y, hy⟩ : ∃ y, minT (fun k => zs[gplace S key zs.length k]?.getD 0) k = y := ⟨_, rfl⟩
      rw [hy] at hbd HM
      have HY := Lib.hid hy
      have hpl' : (p : Int) < (zs.length : Int) := by omega
      have hp0 : (0 : Int) ≤ (p : Int) := by omega
      obtain ⟨y0, y1⟩ := hbd
      rw [hy]
      clear hp hx hy
      by_cases hxy : x < y
      · have HN := Lib.hid (show min y x = x by omega)
        go_wp2
        go_round
        case rel => exact ⟨k + 1, by omega, by go_num, by rw [HM.out, HN.out]⟩
        case measure => simp [intOf]; omega
      · have HN := Lib.hid (show min y x = y by omega)
        go_wp2
        go_round
        case rel => exact ⟨k + 1, by omega, by go_num, by rw [HM.out, HN.out]⟩
        case measure => simp [intOf]; omega
    · obtain rfl : k = r := by omega
      have HV2 := Lib.hid HV.out
      go_wp2
      go_ret2
      exact ⟨by first | (rw [HV.out]; done) | (rw [HV.out]; rfl), X3.out⟩
theorem c_spec_l00Min_v (x y z : Int) (w : World) (h : min x y = z) : Calls Try.prog 68 #[.int .i64 x, .int .i64 y] w fun e w' => e = .returned (.int .i64 z) ∧ w = w' := by
  by_cases hxy : x < y
  · have H := Lib.hid (show x = z by omega)
    clear h
    go_enter Try.func68, Try.ntmps68
    go_wp2
    go_ret
    exact ⟨by rw [H.out]; rfl, rfl⟩
  · have H := Lib.hid (show y = z by omega)
    clear h
    go_enter Try.func68, Try.ntmps68
    go_wp2
    go_ret
    exact ⟨by rw [H.out]; rfl, rfl⟩
theorem c_spec_l00Min_w (x y z : Int) (w : World) (h : min x y = z) : Calls Try.prog 68 #[.int .i64 x, .int .i64 y] w fun e w' => e = .returned (.int .i64 z) ∧ w' = w :=
  (c_spec_l00Min_v x y z w h).mono (by rintro e w' ⟨rfl, rfl⟩; exact ⟨rfl, rfl⟩)
set_option maxHeartbeats 2000000 in
theorem c_spec_InTally (R S : Int) (a : Option Addr) (n cap : Nat) (zs : List Int) (key : Int) (w : World) {v : Int} {b : Bool} (hv : inTallyR R S zs key = (v, b)) (hm : n ≤ maxLen) (h : Reads w a n (ints zs)) :
    Calls Try.prog 26 #[.agg #[.int .i64 R, .int .i64 S, .slice a n cap], .int .i64 key] w fun e w' => e = .returned (.tuple #[.int .i64 v, .bool b]) ∧ Ext w w' := by
  have H := Lib.hid h
  have BX := Lib.hid (Box.alloc w #[.int .i64 R, .int .i64 S, .slice a n cap] 27)
  have hn := h.int.1
  clear h
  cases hc : tallyB R S zs
  · rw [inTallyR_1 hc] at hv
    simp only [Prod.mk.injEq] at hv
    obtain ⟨rfl, rfl⟩ := hv
    have HC := Lib.hid hc
    clear hc hn
    go_enter Try.func26, Try.ntmps26
    go_wp2_with (go_at_call 56; refine (c_spec_l04Tally _ R S a n cap zs _ HC.out BX.out hm (H.out.on (Ext.alloc _ _))).mono ?_; rintro e u1 ⟨rfl, q, rfl⟩)
    go_ret2
    exact ⟨rfl, by (repeat (first | assumption | exact Ext.refl _ | (with_reducible refine Ext.stepS ?_ (by first | exact Nat.le_refl _ | (simp; done) | (simp; omega)) _) | (with_reducible refine Ext.stepN ?_ _) | (with_reducible refine Ext.stepD ?_) | (with_reducible refine Ext.stepA ?_ _)))⟩
  cases hk : keyB key
  · rw [inTallyR_2 hk] at hv
    simp only [Prod.mk.injEq] at hv
    obtain ⟨rfl, rfl⟩ := hv
    have HC := Lib.hid hc
    have HK := Lib.hid hk
    clear hc hk hn
    go_enter Try.func26, Try.ntmps26
    go_wp2_with (first | (go_at_call 56; refine (c_spec_l04Tally _ R S a n cap zs _ HC.out BX.out hm (H.out.on (Ext.alloc _ _))).mono ?_; rintro e u1 ⟨rfl, q, rfl⟩) | (go_at_call 66; refine (c_spec_l02Key_q key _ HK.out).mono ?_; rintro e w' ⟨rfl, rfl⟩))
    go_ret2
    exact ⟨rfl, by (repeat (first | assumption | exact Ext.refl _ | (with_reducible refine Ext.stepS ?_ (by first | exact Nat.le_refl _ | (simp; done) | (simp; omega)) _) | (with_reducible refine Ext.stepN ?_ _) | (with_reducible refine Ext.stepD ?_) | (with_reducible refine Ext.stepA ?_ _)))⟩
  obtain ⟨r, rfl, ok, up⟩ := tally_ok hc
  rw [inTallyR_y hc hk] at hv
  simp only [Prod.mk.injEq] at hv
  obtain ⟨hv, rfl⟩ := hv
  have hr1 := ok.r1
  obtain ⟨r', hr'⟩ : ∃ r', r = r' + 1 := ⟨r - 1, by omega⟩
  have hle : ∀ i, zs[gplace S key zs.length i]?.getD 0 ≤ 1000000 := fun i => (upB_at up (gplace_lt S key i ok.n1)).2
  have HV := Lib.hid (show minOf (fun k => zs[gplace S key zs.length k]?.getD 0) r' = v by rw [← hv, hr']; exact (minT_eq _ r' (fun i _ => hle i)).symm)
  have HRR := Lib.hid hr'
  have OK := Lib.hid ok
  have UP := Lib.hid up
  have HC := Lib.hid hc
  have HK := Lib.hid hk
  have hr8 := ok.r8
  have hn5 := ok.n512
  subst hn
  clear hc hk hv ok up hle hr'
  go_enter Try.func26, Try.ntmps26
  go_wp2_with (first | (go_at_call 56; refine (c_spec_l04Tally _ r S a zs.length cap zs _ HC.out BX.out hm (H.out.on (Ext.alloc _ _))).mono ?_; rintro e u1 ⟨rfl, q, rfl⟩) | (go_at_call 66; refine (c_spec_l02Key_q key _ HK.out).mono ?_; rintro e w' ⟨rfl, rfl⟩))
  refine (c_spec_l04Places r zs.length S key _ OK.out HK.out).mono ?_; rintro e u3 ⟨pa, pc, rfl, o', x3⟩
  have X3 := Lib.hid (show Ext w u3 from Ext.trans (by (repeat (first | assumption | exact Ext.refl _ | (with_reducible refine Ext.stepS ?_ (by first | exact Nat.le_refl _ | (simp; done) | (simp; omega)) _) | (with_reducible refine Ext.stepN ?_ _) | (with_reducible refine Ext.stepD ?_) | (with_reducible refine Ext.stepA ?_ _)))) x3)
  have BX3 := Lib.hid (show Box u3 w.heap.size 27 _ from Box.on BX.out (Ext.trans (by (repeat (first | assumption | exact Ext.refl _ | (with_reducible refine Ext.stepS ?_ (by first | exact Nat.le_refl _ | (simp; done) | (simp; omega)) _) | (with_reducible refine Ext.stepN ?_ _) | (with_reducible refine Ext.stepD ?_) | (with_reducible refine Ext.stepA ?_ _)))) x3))
  have O := Lib.hid o'
  clear x3 o'
  obtain ⟨b0, b1, b2⟩ := BX3.out.three
  go_wp2_with fail
  obtain ⟨pb, po, rfl, hpc⟩ : ∃ b off, pa = some ⟨b, off, none⟩ ∧ ∀ k, k < r → u3.cell? ⟨b, off + k, none⟩ = some (.int .i64 ((gplace S key zs.length k : Nat) : Int)) := by
    obtain ⟨_, hq⟩ := O.out.reads.int
    rcases hq with h0 | ⟨b', off', rfl, hq⟩
    · omega
    · exact ⟨b', off', rfl, fun k hk => by rw [hq k hk, gplaces_get S key zs.length r k hk]⟩
  obtain ⟨ab, ao, rfl, hac⟩ : ∃ b off, a = some ⟨b, off, none⟩ ∧ ∀ p, p < zs.length → u3.cell? ⟨b, off + p, none⟩ = some (.int .i64 (zs[p]?.getD 0)) := by
    obtain ⟨_, hq⟩ := (H.out.on X3.out).int
    rcases hq with h0 | ⟨b', off', rfl, hq⟩
    · have := OK.out.n1; omega
    · exact ⟨b', off', rfl, fun p hp => hq p hp⟩
  have HPC := Lib.hid hpc
  have HAC := Lib.hid hac
  clear hpc hac
  have hp0 := HPC.out 0 (by omega)
  have ha0 := HAC.out (gplace S key zs.length 0) (gplace_lt S key 0 OK.out.n1)
  obtain ⟨p, hp⟩ : ∃ p, gplace S key zs.length 0 = p := ⟨_, rfl⟩
  have hpl : p < zs.length := by rw [← hp]; exact gplace_lt S key 0 OK.out.n1
  rw [hp] at hp0 ha0
  rw [Nat.add_zero] at hp0
  obtain ⟨x, hx⟩ : ∃ x, zs[p]?.getD 0 = x := ⟨_, rfl⟩
  rw [hx] at ha0
  have HX := Lib.hid (show minOf (fun k => zs[gplace S key zs.length k]?.getD 0) 0 = x by show zs[gplace S key zs.length 0]?.getD 0 = x; rw [hp, hx])
  have hr0 : 0 < r := by omega
  have hr0' : (0 : Int) < (r : Int) := by omega
  have hpl' : (p : Int) < (zs.length : Int) := by omega
  have hp00 : (0 : Int) ≤ (p : Int) := by omega
  clear hp hx
  go_quiet (fail)
  go_wp2
  rw [← HX.out]
  clear hp0 ha0 b0 b1 b2
  go_loopw [7, 8] (fun v i wr => ∃ j : Nat, j + 1 ≤ r ∧ i = .int .i64 ((j + 1 : Nat) : Int) ∧ v = .int .i64 (minOf (fun k => zs[gplace S key zs.length k]?.getD 0) j) ∧ Ext u3 wr) (fun _ i _ => r - (intOf i).toNat)
  case atStart => exact ⟨0, by omega, rfl, rfl, Ext.drewN _ _⟩
  case round =>
    obtain ⟨j, hk, rfl, rfl, hext⟩ := hrel
    have HE := Lib.hid hext
    obtain ⟨b0, b1, b2⟩ := (BX3.out.on hext).three
    clear hext
    by_cases hlt : j + 1 < r
    · have hp1 := HE.out.some (HPC.out (j + 1) hlt)
      have ha1 := HE.out.some (HAC.out (gplace S key zs.length (j + 1)) (gplace_lt S key (j + 1) OK.out.n1))
      obtain ⟨p', hp⟩ : ∃ p', gplace S key zs.length (j + 1) = p' := ⟨_, rfl⟩
      have hpl1 : p' < zs.length := by rw [← hp]; exact gplace_lt S key (j + 1) OK.out.n1
      rw [hp] at hp1 ha1
      obtain ⟨x', hx⟩ : ∃ x', zs[p']?.getD 0 = x' := ⟨_, rfl⟩
      rw [hx] at ha1
      obtain ⟨y, hy⟩ : ∃ y, minOf (fun k => zs[gplace S key zs.length k]?.getD 0) j = y := ⟨_, rfl⟩
      obtain ⟨z, hz⟩ : ∃ z, min y x' = z := ⟨_, rfl⟩
      have HM := Lib.hid (show minOf (fun k => zs[gplace S key zs.length k]?.getD 0) (j + 1) = z by show min (minOf _ j) (zs[gplace S key zs.length (j + 1)]?.getD 0) = _; rw [hp, hx, hy, hz])
      have HZ := Lib.hid hz
      rw [hy]
      have hpl2 : (p' : Int) < (zs.length : Int) := by omega
      have hp01 : (0 : Int) ≤ (p' : Int) := by omega
      have hj1 : ((j + 1 : Nat) : Int) < (r : Int) := by omega
      have hj0 : (0 : Int) ≤ ((j + 1 : Nat) : Int) := by omega
      obtain ⟨k1, hk1⟩ : ∃ k1, j + 1 = k1 := ⟨_, rfl⟩
      have HK1 := Lib.hid hk1
      rw [hk1] at hp1 hj1 hj0 hlt hk ⊢
      clear hp hx hy hz hk1
      go_wp2_with fail
      go_quiet ((go_at_call 68; exact Calls.quiet_of_same (c_spec_l00Min_w y x' z _ HZ.out)))
      go_wp2
      go_roundw
      case rel => exact ⟨j + 1, by have := HK1.out; omega, by have := HK1.out; subst this; go_num, by rw [HM.out], HE.out.stepN _⟩
      case measure => simp [intOf]; have := HK1.out; omega
    · obtain rfl : j + 1 = r := by omega
      obtain rfl : j = r' := by have := HRR.out; omega
      go_wp2
      go_ret2
      exact ⟨by first | (rw [HV.out]; done) | (rw [HV.out]; rfl), X3.out.trans HE.out⟩
end Go.Proofs.Ytfolflkbpdbkcab
