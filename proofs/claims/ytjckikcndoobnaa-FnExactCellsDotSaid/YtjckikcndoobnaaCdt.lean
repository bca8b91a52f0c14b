/- CellsDot: both sides. -/
import Derived.Test.YtjckikcndoobnaaRdu
namespace Go.Proofs.Ytjckikcndoobnaa
open Go.ChangeShapes Go.WideShapes Go.ChangeAt Go.RowKit
set_option linter.unusedVariables false
/-- the least of the first -/
def minF (f : Nat → Int) : Nat → Int
  | 0 => 0
  | k + 1 => if k = 0 ∨ f k < minF f k then f k else minF f k
theorem minF_one (f : Nat → Int) : minF f 1 = f 0 := by simp [minF]
theorem minF_lt (f : Nat → Int) (k : Nat) (h : f k < minF f k) : minF f (k + 1) = f k := by show (if _ then _ else _) = _; rw [if_pos (.inr h)]
theorem minF_ge (f : Nat → Int) (k : Nat) (h0 : k ≠ 0) (h : ¬ f k < minF f k) : minF f (k + 1) = minF f k := by show (if _ then _ else _) = _; rw [if_neg (by rintro (h1 | h1) <;> contradiction)]
theorem minF_congr {f g : Nat → Int} : ∀ (n : Nat), (∀ i, i < n → f i = g i) → minF f n = minF g n
  | 0, _ => rfl
  | n + 1, h => by
    show (if n = 0 ∨ f n < minF f n then f n else minF f n) = (if n = 0 ∨ g n < minF g n then g n else minF g n)
    rw [minF_congr n (fun i hi => h i (by omega)), h n (by omega)]
def cdotR (W D S : Int) (zs : List Int) (W' D' S' : Int) (ys : List Int) : Int × Bool := if dotsB W D S zs W' D' S' ys then (minF (dotRow W.toNat zs ys) D.toNat, true) else (0, false)
theorem cdotR_no {W D S : Int} {zs : List Int} {W' D' S' : Int} {ys : List Int} (h : dotsB W D S zs W' D' S' ys = false) : cdotR W D S zs W' D' S' ys = (0, false) := by unfold cdotR; rw [h]; rfl
theorem cdotR_y {m d : Nat} {S : Int} {zs ys : List Int} (h : dotsB m d S zs m d S ys = true) : cdotR m d S zs m d S ys = (minF (dotRow m zs ys) d, true) := by unfold cdotR; rw [h]; simp
theorem dots_ok {W D S : Int} {zs : List Int} {W' D' S' : Int} {ys : List Int} (h : dotsB W D S zs W' D' S' ys = true) : ∃ m d : Nat, W = m ∧ D = d ∧ W' = m ∧ D' = d ∧ S' = S ∧ CellsOk m d S zs ∧ CellsOk m d S ys ∧ manyB 1000000 zs = true ∧ manyB 1000000 ys = true := by
  unfold dotsB mergeB at h
  simp only [Bool.and_eq_true] at h
  obtain ⟨⟨⟨⟨h1, h2⟩, h3⟩, h4⟩, h5⟩ := h
  obtain ⟨rfl, rfl, rfl⟩ := shapeB_is h3
  obtain ⟨m, d, rfl, rfl, ok⟩ := cells_ok h1
  obtain ⟨m2, d2, e1, e2, ok2⟩ := cells_ok h2
  obtain rfl : m2 = m := by omega
  obtain rfl : d2 = d := by omega
  exact ⟨m2, d2, rfl, rfl, rfl, rfl, rfl, ok, ok2, h4, h5⟩
set_option maxHeartbeats 1000000 in
theorem c_Min (a : Option Addr) (n cap : Nat) (zs : List Int) (w : World) (hn1 : 1 ≤ n) (hn : n ≤ 384) (h : Reads w a n (ints zs)) :
    Calls Try.prog 76 #[.slice a n cap] w fun e w' => e = .returned (.int .i64 (minF (fun i => zs[i]?.getD 0) n)) ∧ w = w' := by
  obtain ⟨hz, hr⟩ := h.int
  obtain ⟨b, off, rfl, hc⟩ : ∃ b off, a = some ⟨b, off, none⟩ ∧ ∀ i, i < n → w.cell? ⟨b, off + i, none⟩ = some (.int .i64 (zs[i]?.getD 0)) := by
    rcases hr with h0 | hq
    · omega
    · exact hq
  obtain ⟨f, hf⟩ : ∃ f : Nat → Int, (fun i => zs[i]?.getD 0) = f := ⟨_, rfl⟩
  have HC := Lib.hid (show ∀ i, i < n → w.cell? ⟨b, off + i, none⟩ = some (.int .i64 (f i)) from fun i hi => by rw [← hf]; exact hc i hi)
  have h0 := HC.out 0 (by omega)
  rw [Nat.add_zero] at h0
  obtain ⟨x0, hx0⟩ : ∃ x, f 0 = x := ⟨_, rfl⟩
  rw [hx0] at h0
  have HX0 := Lib.hid hx0
  rw [hf]
  clear hr h hz hf hc hx0
  go_enter Try.func76, Try.ntmps76
  go_wp2
  go_loop [3, 4] (fun s i => ∃ k : Nat, 1 ≤ k ∧ k ≤ n ∧ i = .int .i64 k ∧ s = .int .i64 (minF f k)) (fun _ i => n - (intOf i).toNat)
  case atStart => exact ⟨1, by omega, hn1, rfl, by rw [minF_one, HX0.out]⟩
  case round =>
    obtain ⟨k, hk1, hk, rfl, rfl⟩ := hrel
    by_cases hlt : k < n
    · have hcell := HC.out k hlt
      obtain ⟨x, hx⟩ : ∃ x, f k = x := ⟨_, rfl⟩
      obtain ⟨y, hy⟩ : ∃ y, minF f k = y := ⟨_, rfl⟩
      rw [hx] at hcell
      rw [hy]
      by_cases hlt2 : x < y
      · have HM := Lib.hid (show minF f (k + 1) = x by rw [minF_lt f k (by rw [hx, hy]; exact hlt2), hx])
        clear hx hy
        go_wp2
        go_round
        case rel => exact ⟨k + 1, by omega, by omega, by go_num, by rw [HM.out]⟩
        case measure => simp [intOf]; omega
      · have HM := Lib.hid (show minF f (k + 1) = y by rw [minF_ge f k (by omega) (by rw [hx, hy]; exact hlt2), hy])
        clear hx hy
        go_wp2
        go_round
        case rel => exact ⟨k + 1, by omega, by omega, by go_num, by rw [HM.out]⟩
        case measure => simp [intOf]; omega
    · obtain rfl : n = k := by omega
      go_wp2
      go_ret
      exact ⟨rfl, rfl⟩
set_option maxRecDepth 100000 in
set_option maxHeartbeats 4000000 in
theorem c_impl_CellsDot (W D S : Int) (a : Option Addr) (n cap : Nat) (zs : List Int) (W' D' S' : Int) (a' : Option Addr) (n' cap' : Nat) (ys : List Int) (w : World) {v : Int} {b : Bool} (hv : cdotR W D S zs W' D' S' ys = (v, b)) (hm : n ≤ maxLen) (hcap : n ≤ cap ∧ cap ≤ maxLen) (h : Reads w a n (ints zs)) (hm' : n' ≤ maxLen) (hcap' : n' ≤ cap' ∧ cap' ≤ maxLen) (h' : Reads w a' n' (ints ys)) :
    Calls Try.prog 42 #[.agg #[.int .i64 W, .int .i64 D, .int .i64 S, .slice a n cap], .agg #[.int .i64 W', .int .i64 D', .int .i64 S', .slice a' n' cap']] w fun e w' => e = .returned (.tuple #[.int .i64 v, .bool b]) ∧ Ext w w' := by
  have H := Lib.hid h
  have H' := Lib.hid h'
  have HM := Lib.hid hm
  have HM' := Lib.hid hm'
  have HCP := Lib.hid hcap
  have HCP' := Lib.hid hcap'
  clear h hm hcap h' hm' hcap'
  cases hb : dotsB W D S zs W' D' S' ys
  · rw [cdotR_no hb] at hv
    simp only [Prod.mk.injEq] at hv
    obtain ⟨rfl, rfl⟩ := hv
    have HB := Lib.hid hb
    clear hb
    go_enter Try.func42, Try.ntmps42
    go_wp2_with fail
    refine (c_impl_rowDots_no W D S a n cap zs W' D' S' a' n' cap' ys _ HB.out HM.out (H.out.on (by (repeat (first | assumption | exact Ext.refl _ | (with_reducible refine Ext.stepS ?_ (by first | exact Nat.le_refl _ | (simp; done) | (simp; omega)) _) | (with_reducible refine Ext.stepN ?_ _) | (with_reducible refine Ext.stepD ?_) | (with_reducible refine Ext.stepA ?_ _))))) HM'.out (H'.out.on (by (repeat (first | assumption | exact Ext.refl _ | (with_reducible refine Ext.stepS ?_ (by first | exact Nat.le_refl _ | (simp; done) | (simp; omega)) _) | (with_reducible refine Ext.stepN ?_ _) | (with_reducible refine Ext.stepD ?_) | (with_reducible refine Ext.stepA ?_ _)))))).mono ?_; rintro e wa ⟨rfl, x'⟩
    have X1 : Ext w wa := Ext.trans (by (repeat (first | assumption | exact Ext.refl _ | (with_reducible refine Ext.stepS ?_ (by first | exact Nat.le_refl _ | (simp; done) | (simp; omega)) _) | (with_reducible refine Ext.stepN ?_ _) | (with_reducible refine Ext.stepD ?_) | (with_reducible refine Ext.stepA ?_ _)))) x'
    clear x'
    go_wp2
    go_ret2
    exact ⟨rfl, X1⟩
  · obtain ⟨m, d, rfl, rfl, rfl, rfl, rfl, ok, ok', hs, hs'⟩ := dots_ok hb
    rw [cdotR_y hb] at hv
    simp only [Prod.mk.injEq] at hv
    obtain ⟨rfl, rfl⟩ := hv
    have hd1 := ok.d1
    have hd6 := ok.d6
    have OK := Lib.hid ok
    have OK' := Lib.hid ok'
    have HS := Lib.hid hs
    have HS' := Lib.hid hs'
    have HMC := Lib.hid (show minF (fun i => (dotsZ m d zs ys)[i]?.getD 0) d = minF (dotRow m zs ys) d from minF_congr d fun i hi => dotsZ_get m d zs ys i hi)
    clear hb hs hs' ok ok'
    go_enter Try.func42, Try.ntmps42
    go_wp2_with fail
    refine (c_impl_rowDots m d S' a n cap zs a' n' cap' ys _ OK.out OK'.out HS.out HS'.out HM.out HCP.out (H.out.on (by (repeat (first | assumption | exact Ext.refl _ | (with_reducible refine Ext.stepS ?_ (by first | exact Nat.le_refl _ | (simp; done) | (simp; omega)) _) | (with_reducible refine Ext.stepN ?_ _) | (with_reducible refine Ext.stepD ?_) | (with_reducible refine Ext.stepA ?_ _))))) HM'.out HCP'.out (H'.out.on (by (repeat (first | assumption | exact Ext.refl _ | (with_reducible refine Ext.stepS ?_ (by first | exact Nat.le_refl _ | (simp; done) | (simp; omega)) _) | (with_reducible refine Ext.stepN ?_ _) | (with_reducible refine Ext.stepD ?_) | (with_reducible refine Ext.stepA ?_ _)))))).mono ?_; rintro e wa ⟨pa, pc, rfl, o', x'⟩
    have X1 := Lib.hid (show Ext w wa from Ext.trans (by (repeat (first | assumption | exact Ext.refl _ | (with_reducible refine Ext.stepS ?_ (by first | exact Nat.le_refl _ | (simp; done) | (simp; omega)) _) | (with_reducible refine Ext.stepN ?_ _) | (with_reducible refine Ext.stepD ?_) | (with_reducible refine Ext.stepA ?_ _)))) x')
    have HO := Lib.hid o'.reads
    clear o' x'
    go_wp2_with fail
    refine (c_Min pa d pc (dotsZ m d zs ys) _ hd1 (by omega) HO.out).mono ?_; rintro e wz ⟨rfl, rfl⟩
    rw [HMC.out]
    go_wp2
    go_ret2
    exact ⟨rfl, X1.out⟩
end Go.Proofs.Ytjckikcndoobnaa
