/- Peeled cells: plain facts; the cells of a key, on both sides. -/
import Derived.Test.YtfolflkbpdbkcaaIns
namespace Go.Proofs.Ytfolflkbpdbkcaa
open Go.ChangeShapes Go.WideShapes Go.ChangeAt Go.RowKit
set_option linter.unusedVariables false
def peelF (m : Nat) (S key : Int) (k i : Nat) : Value := if i < k then .int .i64 (placeN m S key i : Nat) else .int .i64 0
theorem peelF_step (m : Nat) (S key : Int) (k : Nat) {w : World} {b : Nat} {t : TypeId} (h : w.rowIs b t 3 (peelF m S key k)) : (w.setCell ⟨b, k, none⟩ (.int .i64 (placeN m S key k : Nat))).rowIs b t 3 (peelF m S key (k + 1)) := by
  refine (h.set k _).congr fun i hi => ?_
  unfold peelF
  by_cases e : i = k
  · subst e; rw [if_pos rfl, if_pos (by omega)]
  · rw [if_neg e]
    by_cases e2 : i < k
    · rw [if_pos e2, if_pos (by omega)]
    · rw [if_neg e2, if_neg (by omega)]
theorem row_three {w : World} {b : Nat} {t : TypeId} {x y z : Value} (h : Box w b t #[x, y, z]) (f : Nat → Value) (h0 : f 0 = x) (h1 : f 1 = y) (h2 : f 2 = z) : w.rowIs b t 3 f :=
  ⟨#[x, y, z], h, rfl, fun i hi => by
    match i, hi with
    | 0, _ => rw [h0]; rfl
    | 1, _ => rw [h1]; rfl
    | 2, _ => rw [h2]; rfl⟩
set_option maxHeartbeats 1000000 in
theorem c_impl_peeledOf (key S : Int) (m p0 p1 p2 : Nat) (w : World) (hk : keyB key = true) (hs : keyB S = true) (hm : m ≤ 128) (hm1 : 1 ≤ m) (h0 : placeN m S key 0 = p0) (h1 : placeN m S key 1 = p1) (h2 : placeN m S key 2 = p2) :
    Calls Try.prog 95 #[.int .i64 key, .int .i64 m, .int .i64 S] w fun e w' => e = .returned (.agg #[.int .i64 p0, .int .i64 p1, .int .i64 p2]) ∧ Ext w w' := by
  have HK := Lib.hid hk
  have HS := Lib.hid hs
  have P0 := Lib.hid h0
  have P1 := Lib.hid h1
  have P2 := Lib.hid h2
  have BZ := Lib.hid ((Box.alloc w #[.int .i64 0, .int .i64 0, .int .i64 0] 88).past (.cells #[.int .i64 0, .int .i64 0, .int .i64 0] 88))
  have BP := Lib.hid (Box.alloc_at (w.alloc (.cells #[.int .i64 0, .int .i64 0, .int .i64 0] 88)) #[.int .i64 0, .int .i64 0, .int .i64 0] 88 (b := w.heap.size + 1) (by simp))
  have X1 := Lib.hid (show Ext w ((w.alloc (.cells #[.int .i64 0, .int .i64 0, .int .i64 0] 88)).alloc (.cells #[.int .i64 0, .int .i64 0, .int .i64 0] 88)) from by (repeat (first | assumption | exact Ext.refl _ | (with_reducible refine Ext.stepS ?_ (by first | exact Nat.le_refl _ | (simp; done) | (simp; omega)) _) | (with_reducible refine Ext.stepN ?_ _) | (with_reducible refine Ext.stepD ?_) | (with_reducible refine Ext.stepA ?_ _))))
  clear hk hs h0 h1 h2
  go_enter Try.func95, Try.ntmps95
  go_wp2_with fail
  obtain ⟨w1, hw1⟩ : ∃ w1, (w.alloc (.cells #[.int .i64 0, .int .i64 0, .int .i64 0] 88)).alloc (.cells #[.int .i64 0, .int .i64 0, .int .i64 0] 88) = w1 := ⟨_, rfl⟩
  rw [hw1] at BZ BP X1 ⊢
  have HSZ := Lib.hid BP.out.lt
  clear hw1
  go_loopw [10] (fun i wr => ∃ k : Nat, k ≤ 3 ∧ i = .int .i64 k ∧ wr.rowIs (w.heap.size + 1) 88 3 (peelF m S key k) ∧ Touch (w.heap.size + 1) (w.heap.size + 1 + 1) w1 wr) (fun i _ => 3 - (intOf i).toNat)
  case atStart => exact ⟨0, Nat.zero_le _, rfl, row_three BP.out _ rfl rfl rfl, Touch.refl _ _ _⟩
  case round =>
    obtain ⟨k, hk, rfl, hrow, ht⟩ := hrel
    have HRW := Lib.hid hrow
    have HT := Lib.hid ht
    clear hrow ht
    by_cases hlt : k < 3
    · obtain ⟨z, hz⟩ : ∃ z, saltZ S k = z := ⟨_, rfl⟩
      obtain ⟨y, hy⟩ : ∃ y, belowN key z m = y := ⟨_, rfl⟩
      have HZ := Lib.hid hz
      have HY := Lib.hid hy
      have HZK := Lib.hid (show keyB z = true by rw [← hz]; exact saltZ_key S k)
      have hyl : y < m := by rw [← hy]; exact belowN_lt key z m hm1
      obtain ⟨c, hc⟩ : ∃ c, k * m = c := ⟨_, rfl⟩
      have hcb : c ≤ 256 := by rw [← hc]; have h2 := Nat.mul_le_mul (show k ≤ 2 by omega) hm; omega
      have hci : (k : Int) * (m : Int) = (c : Int) := by rw [← hc]; exact (Int.natCast_mul k m).symm
      have HP := Lib.hid (show placeN m S key k = c + y by unfold placeN; rw [hz, hy, hc])
      have hcell := HRW.out.cell (i := k) hlt
      have hfro := HRW.out.frozen k
      have hold : peelF m S key k k = .int .i64 0 := by unfold peelF; rw [if_neg (by omega)]
      rw [hold] at hcell
      have HS2 := Lib.hid (peelF_step m S key k HRW.out)
      have hkl : (k : Int) < 3 := by omega
      have hk0 : (0 : Int) ≤ (k : Int) := by omega
      clear hz hy hc hold
      go_wp2_with (first | (go_at_call 85; refine (c_impl_saltAfter_e S k z _ HS.out (by omega) HZ.out).mono ?_; rintro e w' ⟨rfl, rfl⟩) | (go_at_call 84; refine (c_impl_hashBelow_e key z m y _ HK.out HZK.out (by omega) HY.out).mono ?_; rintro e w' ⟨rfl, rfl⟩))
      go_roundw
      case rel => exact ⟨k + 1, by omega, by go_num, by have q := HS2.out; rw [HP.out] at q; simpa using q, (HT.out).one _ _⟩
      case measure => simp [intOf]; omega
    · obtain rfl : k = 3 := by omega
      have c0 := HRW.out.cell (i := 0) (by decide)
      have c1 := HRW.out.cell (i := 1) (by decide)
      have c2 := HRW.out.cell (i := 2) (by decide)
      have e0 : peelF m S key 3 0 = .int .i64 (p0 : Nat) := by unfold peelF; rw [if_pos (by decide), P0.out]
      have e1 : peelF m S key 3 1 = .int .i64 (p1 : Nat) := by unfold peelF; rw [if_pos (by decide), P1.out]
      have e2 : peelF m S key 3 2 = .int .i64 (p2 : Nat) := by unfold peelF; rw [if_pos (by decide), P2.out]
      rw [e0] at c0
      rw [e1] at c1
      rw [e2] at c2
      have BZ2 := Lib.hid (BZ.out.beside HT.out (by omega))
      have HEX := Lib.hid (Touch.ext X1.out HT.out (by omega))
      obtain ⟨z0, z1, z2⟩ := BZ2.out.three
      obtain ⟨y0, y1, y2, y3⟩ := BZ2.out.free
      have hq1 : w.heap.size ≠ w.heap.size + 1 := by omega
      clear e0 e1 e2
      go_wp2
      refine bodyPost_ret (v := .agg #[.int .i64 p0, .int .i64 p1, .int .i64 p2]) (by simp [results, Try.results95, go_sem, z0, z1, z2]) rfl ⟨rfl, ?_⟩
      have HEX' := HEX.out
      (repeat (first | assumption | exact Ext.refl _ | (with_reducible refine Ext.stepS ?_ (by first | exact Nat.le_refl _ | (simp; done) | (simp; omega)) _) | (with_reducible refine Ext.stepN ?_ _) | (with_reducible refine Ext.stepD ?_) | (with_reducible refine Ext.stepA ?_ _)))
theorem c_impl_markOf (key S : Int) (y : Nat) (w : World) (hk : keyB key = true) (hs : keyB S = true) (hy : belowN key (saltZ S 3) 255 + 1 = y) :
    Calls Try.prog 79 #[.int .i64 key, .int .i64 S] w fun e w' => e = .returned (.int .i64 (y : Nat)) ∧ w = w' := by
  obtain ⟨z, hz⟩ : ∃ z, saltZ S 3 = z := ⟨_, rfl⟩
  have HZ := Lib.hid hz
  have HZK := Lib.hid (show keyB z = true by rw [← hz]; exact saltZ_key S 3)
  obtain ⟨b, hb⟩ : ∃ b, belowN key z 255 = b := ⟨_, rfl⟩
  have HB := Lib.hid hb
  have hbl := belowN_lt key z 255 (by decide)
  rw [hb] at hbl
  rw [hz, hb] at hy
  have HK := Lib.hid hk
  have HS := Lib.hid hs
  subst hy
  clear hz hb hk hs
  go_enter Try.func79, Try.ntmps79
  go_wp2_with (first | (go_at_call 85; refine (c_impl_saltAfter_e S 3 z _ HS.out (by omega) HZ.out).mono ?_; rintro e w' ⟨rfl, rfl⟩) | (go_at_call 84; refine (c_impl_hashBelow_e key z 255 b _ HK.out HZK.out (by omega) HB.out).mono ?_; rintro e w' ⟨rfl, rfl⟩))
  go_ret
  exact ⟨by first | rfl | simp, rfl⟩
def peelB (zs : List Int) : Bool := decide (3 ≤ zs.length ∧ zs.length ≤ 384 ∧ zs.length % 3 = 0) && upB 255 zs
theorem c_impl_arePeeled (a : Option Addr) (n cap : Nat) (zs : List Int) (w : World) {r : Bool} (hr : peelB zs = r) (hm : n ≤ maxLen) (h : Reads w a n (ints zs)) :
    Calls Try.prog 77 #[.slice a n cap] w fun e w' => e = .returned (.bool r) ∧ w' = w := by
  have hn := h.int.1
  subst hn
  have H := Lib.hid h
  have HM := Lib.hid hm
  unfold maxLen at hm
  clear h
  by_cases h1 : zs.length < 3
  · have HR := Lib.hid (show r = false by rw [← hr]; unfold peelB; rw [decide_eq_false (by omega)]; rfl)
    have h1' : (zs.length : Int) < 3 := by omega
    clear hr h1
    go_enter Try.func77, Try.ntmps77
    go_wp2
    go_ret
    exact ⟨retB (by first | exact HR.out.symm | (rw [HR.out]; done) | (rw [HR.out]; simp; omega)), rfl⟩
  by_cases h2 : 384 < zs.length
  · have HR := Lib.hid (show r = false by rw [← hr]; unfold peelB; rw [decide_eq_false (by omega)]; rfl)
    have h1' : (3 : Int) ≤ (zs.length : Int) := by omega
    have h2' : (384 : Int) < (zs.length : Int) := by omega
    clear hr h1 h2
    go_enter Try.func77, Try.ntmps77
    go_wp2
    go_ret
    exact ⟨retB (by first | exact HR.out.symm | (rw [HR.out]; done) | (rw [HR.out]; simp; omega)), rfl⟩
  have h1' : (3 : Int) ≤ (zs.length : Int) := by omega
  have h2' : (zs.length : Int) ≤ 384 := by omega
  by_cases h3 : zs.length % 3 = 0
  · have HR := Lib.hid (show upB 255 zs = r by rw [← hr]; unfold peelB; rw [decide_eq_true ⟨by omega, by omega, h3⟩]; rfl)
    have h3' : (zs.length : Int) % 3 = 0 := by omega
    clear hr h1 h2 h3
    go_enter Try.func77, Try.ntmps77
    go_wp2_with (go_at_call 94; refine (c_impl_areUpTo a zs.length cap zs 255 _ (by decide) (by decide) HM.out HR.out H.out).mono ?_; rintro e w' ⟨rfl, rfl⟩)
    go_ret
    exact ⟨rfl, rfl⟩
  · have HR := Lib.hid (show r = false by rw [← hr]; unfold peelB; rw [decide_eq_false (by omega)]; rfl)
    have h3' : ¬ (zs.length : Int) % 3 = 0 := by omega
    have h3'' : ((zs.length : Int) % 3 == 0) = false := by simpa using h3'
    clear hr h1 h2 h3
    go_enter Try.func77, Try.ntmps77
    go_wp2
    go_ret
    exact ⟨retB (by first | exact HR.out.symm | (rw [HR.out]; done) | (rw [HR.out]; simp; omega)), rfl⟩
end Go.Proofs.Ytfolflkbpdbkcaa
