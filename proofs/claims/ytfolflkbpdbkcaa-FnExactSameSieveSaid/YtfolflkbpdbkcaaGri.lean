/- Grids and places, on both sides. -/
import Derived.Test.YtfolflkbpdbkcaaKin
import Derived.Test.YtfolflkbpdbkcaaLcl
import Derived.Test.YtfolflkbpdbkcaaPla
import Derived.Test.YtfolflkbpdbkcaaChc
namespace Go.Proofs.Ytfolflkbpdbkcaa
open Go.ChangeShapes Go.WideShapes Go.ChangeAt Go.RowKit
set_option linter.unusedVariables false
theorem in_lo {a b k : Int} (h : k < a) : inB a k b = false := decide_eq_false (by omega)
theorem in_hi {a b k : Int} (h : b < k) : inB a k b = false := decide_eq_false (by omega)
theorem in_yes {a b k : Int} (h1 : a ≤ k) (h2 : k ≤ b) : inB a k b = true := decide_eq_true ⟨h1, h2⟩
theorem gridB_yes {R S n : Int} (h1 : inB 1 R 8 = true) (h2 : inB 1 n 512 = true) : gridB R S n = keyB S := by unfold gridB; rw [h1, h2]; simp
theorem c_spec_l02Key_q (k : Int) (w : World) {b : Bool} (h : keyB k = b) : Calls Try.prog 57 #[.int .i64 k] w fun e w' => e = .returned (.bool b) ∧ w = w' := by
  subst h; exact c_spec_l02Key k w
theorem c_l00In_e (k lo hi : Int) (w : World) {b : Bool} (h : inB lo k hi = b) : Calls Try.prog 56 #[.int .i64 k, .int .i64 lo, .int .i64 hi] w fun e w' => e = .returned (.bool b) ∧ w = w' := by
  subst h; exact c_l00In k lo hi w
theorem c_impl_gridOfSieve (R S : Int) (a : Option Addr) (n cap : Nat) (w : World) :
    Calls Try.prog 52 #[.agg #[.int .i64 R, .int .i64 S, .slice a n cap]] w fun e w' => e = .returned (.agg #[.int .i64 R, .int .i64 S, .int .i64 n]) ∧ Ext w w' := by
  go_enter Try.func52, Try.ntmps52
  go_wp2
  exact bodyPost_ret (v := .agg #[.int .i64 R, .int .i64 S, .int .i64 n]) (by simp [results, Try.results52, go_sem]) rfl ⟨rfl, by (repeat (first | assumption | exact Ext.refl _ | (with_reducible refine Ext.stepS ?_ (by first | exact Nat.le_refl _ | (simp; done) | (simp; omega)) _) | (with_reducible refine Ext.stepN ?_ _) | (with_reducible refine Ext.stepD ?_) | (with_reducible refine Ext.stepA ?_ _)))⟩
set_option maxHeartbeats 1000000 in
theorem c_impl_isGrid (R S n : Int) (w : World) {r : Bool} (h : gridB R S n = r) :
    Calls Try.prog 51 #[.agg #[.int .i64 R, .int .i64 S, .int .i64 n]] w fun e w' => e = .returned (.bool r) ∧ Ext w w' := by
  by_cases h1 : R < 1
  · rw [gridB_1 (in_lo h1)] at h
    have H := Lib.hid h; clear h
    go_enter Try.func51, Try.ntmps51
    go_wp2
    go_ret
    exact ⟨retB (by first | (rw [← H.out]; done) | (rw [← H.out]; rfl) | (rw [← H.out]; simp; omega)), (Ext.refl _).stepA _⟩
  by_cases h2 : 8 < R
  · rw [gridB_1 (in_hi h2)] at h
    have H := Lib.hid h; clear h
    go_enter Try.func51, Try.ntmps51
    go_wp2
    go_ret
    exact ⟨retB (by first | (rw [← H.out]; done) | (rw [← H.out]; rfl) | (rw [← H.out]; simp; omega)), (Ext.refl _).stepA _⟩
  cases hk : keyB S
  · rw [gridB_2 hk] at h
    have H := Lib.hid h; have HK := Lib.hid hk; clear h hk
    go_enter Try.func51, Try.ntmps51
    go_wp2_with (go_at_call 63; refine (c_impl_IsKey_b S _ HK.out).mono ?_; rintro e w' ⟨rfl, rfl⟩)
    go_ret
    exact ⟨retB (by first | (rw [← H.out]; done) | (rw [← H.out]; rfl) | (rw [← H.out]; simp; omega)), (Ext.refl _).stepA _⟩
  have HK := Lib.hid hk
  by_cases h3 : n < 1
  · rw [gridB_3 (in_lo h3)] at h
    have H := Lib.hid h; clear h hk
    go_enter Try.func51, Try.ntmps51
    go_wp2_with (go_at_call 63; refine (c_impl_IsKey_b S _ HK.out).mono ?_; rintro e w' ⟨rfl, rfl⟩)
    go_ret
    exact ⟨retB (by first | (rw [← H.out]; done) | (rw [← H.out]; rfl) | (rw [← H.out]; simp; omega)), (Ext.refl _).stepA _⟩
  by_cases h4 : 512 < n
  · rw [gridB_3 (in_hi h4)] at h
    have H := Lib.hid h; clear h hk
    go_enter Try.func51, Try.ntmps51
    go_wp2_with (go_at_call 63; refine (c_impl_IsKey_b S _ HK.out).mono ?_; rintro e w' ⟨rfl, rfl⟩)
    go_ret
    exact ⟨retB (by first | (rw [← H.out]; done) | (rw [← H.out]; rfl) | (rw [← H.out]; simp; omega)), (Ext.refl _).stepA _⟩
  rw [gridB_yes (in_yes (by omega) (by omega)) (in_yes (by omega) (by omega)), hk] at h
  have H := Lib.hid h; clear h hk
  go_enter Try.func51, Try.ntmps51
  go_wp2_with (go_at_call 63; refine (c_impl_IsKey_b S _ HK.out).mono ?_; rintro e w' ⟨rfl, rfl⟩)
  go_ret
  exact ⟨retB (by first | (rw [← H.out]; done) | (rw [← H.out]; rfl) | (rw [← H.out]; simp; omega)), (Ext.refl _).stepA _⟩
theorem c_impl_hashBelow_e (key salt : Int) (n y : Nat) (w : World) (hk : keyB key = true) (hs : keyB salt = true) (hn : n ≤ 4294967296) (hy : belowN key salt n = y) : Calls Try.prog 84 #[.int .i64 key, .int .i64 salt, .int .i64 n] w fun e w' => e = .returned (.int .i64 (y : Nat)) ∧ w = w' := by
  subst hy; exact c_impl_hashBelow key salt n w hk hs hn
theorem c_impl_saltAfter_e (S : Int) (i : Nat) (z : Int) (w : World) (hs : keyB S = true) (hi : i ≤ 1000000) (hz : saltZ S i = z) : Calls Try.prog 85 #[.int .i64 S, .int .i64 i] w fun e w' => e = .returned (.int .i64 z) ∧ w = w' :=
  (c_impl_saltAfter_v S i z w hs hi hz).mono (by rintro e w' ⟨rfl, rfl⟩; exact ⟨rfl, rfl⟩)
theorem c_spec_l02Below_e (key salt : Int) (n y : Nat) (w : World) (hk : keyB key = true) (hs : keyB salt = true) (hn : n ≤ 4294967296) (hy : belowN key salt n = y) : Calls Try.prog 82 #[.int .i64 key, .int .i64 salt, .int .i64 n] w fun e w' => e = .returned (.int .i64 (y : Nat)) ∧ w = w' := by
  subst hy; exact c_spec_l02Below key salt n w hk hs hn
theorem c_impl_IsKey_q (k : Int) (w : World) {b : Bool} (h : keyB k = b) : Calls Try.prog 63 #[.int .i64 k] w fun e w' => e = .returned (.bool b) ∧ w = w' := by
  subst h; exact c_impl_IsKey k w
set_option maxHeartbeats 4000000 in
/-- the places of a key, in memory of its own -/
theorem c_impl_placesIn (r m : Nat) (S key : Int) (w : World) (hok : GridOk r S m) (hk : keyB key = true) :
    Calls Try.prog 64 #[.agg #[.int .i64 r, .int .i64 S, .int .i64 m], .int .i64 key] w (RetS 2 r (ints (gplaces S key m r)) w) := by
  have OK := Lib.hid hok
  have HK := Lib.hid hk
  have hr8 := hok.r8
  have hm5 := hok.n512
  have BX := Lib.hid (Box.alloc w #[.int .i64 r, .int .i64 S, .int .i64 m] 60)
  have hmk := run_make_row' (P := Try.prog) 40 2 (.int .i64 0) 8 Try.underlying40 info_i64 rfl .i64 .i64 r (by omega) (by omega)
  clear hok hk
  go_enter Try.func64, Try.ntmps64
  go_wp2
  go_loopw [12] (fun i wr => ∃ k : Nat, k ≤ r ∧ i = .int .i64 k ∧ wr.rowIs (w.heap.size + 1) 2 r (fillF (gplaces S key m r) k) ∧ Ext (w.alloc (.cells #[.int .i64 r, .int .i64 S, .int .i64 m] 60)) wr) (fun i _ => r - (intOf i).toNat)
  case atStart => exact ⟨0, Nat.zero_le _, rfl, by have := World.rowIs_made (w.alloc (.cells #[.int .i64 r, .int .i64 S, .int .i64 m] 60)) (.int .i64 0) r 2; simp at this; exact this.congr fun i _ => rfl, by (repeat (first | assumption | exact Ext.refl _ | (with_reducible refine Ext.stepS ?_ (by first | exact Nat.le_refl _ | (simp; done) | (simp; omega)) _) | (with_reducible refine Ext.stepN ?_ _) | (with_reducible refine Ext.stepD ?_) | (with_reducible refine Ext.stepA ?_ _)))⟩
  case round =>
    obtain ⟨k, hk, rfl, hrow, hext⟩ := hrel
    by_cases hlt : k < r
    · obtain ⟨b0, b1, b2⟩ := (BX.out.on hext).three
      obtain ⟨z, hz⟩ : ∃ z, saltZ S k = z := ⟨_, rfl⟩
      obtain ⟨y, hy⟩ : ∃ y, belowN key z m = y := ⟨_, rfl⟩
      have HZ := Lib.hid hz
      have HY := Lib.hid hy
      have HZK := Lib.hid (show keyB z = true by rw [← hz]; exact saltZ_key S k)
      have HG := Lib.hid (show (gplaces S key m r)[k]?.getD 0 = (y : Int) by rw [gplaces_get S key m r k hlt]; unfold gplace; rw [hz, hy])
      have hcur := hrow.cell hlt
      have hfro := hrow.frozen k
      have HS := Lib.hid (fillF_step (gplaces S key m r) k hrow)
      have HE := Lib.hid hext
      clear hrow hext hz hy
      go_wp2_with fail
      go_region_with (first | (go_at_call 85; refine (c_impl_saltAfter_e S k z _ OK.out.key (by omega) HZ.out).mono ?_; rintro e w' ⟨rfl, rfl⟩) | (go_at_call 84; refine (c_impl_hashBelow_e key z m y _ HK.out HZK.out (by omega) HY.out).mono ?_; rintro e w' ⟨rfl, rfl⟩))
      all_goals
        go_wp2
        go_roundw
        case rel => exact ⟨k + 1, by omega, by go_num, by have := HS.out; rw [HG.out] at this; exact rowIs_on this (Ext.drew _), (HE.out.stepS (by simp) _).stepD⟩
        case measure => simp [intOf]; omega
    · obtain rfl : k = r := by omega
      have HR := Lib.hid hrow
      have HE := Lib.hid hext
      clear hrow hext
      go_wp2
      go_ret
      exact ⟨_, _, rfl, (own_made (by rw [ints_length, gplaces_length]) (Nat.le_refl _) HR.out (fun i hi => by rw [ints_get _ i (by rw [gplaces_length]; exact hi)]; unfold fillF; rw [if_pos hi])).wide (by omega) (Nat.le_refl _), (Ext.alloc _ _).trans HE.out⟩
theorem c_impl_areUpTo (a : Option Addr) (n cap : Nat) (zs : List Int) (m : Int) (w : World) {r : Bool} (m0 : 0 ≤ m) (m1 : m ≤ 1000000000000) (hm : n ≤ maxLen) (hr : upB m zs = r) (h : Reads w a n (ints zs)) :
    Calls Try.prog 94 #[.slice a n cap, .int .i64 m] w fun e w' => e = .returned (.bool r) ∧ w' = w := by
  unfold maxLen at hm
  obtain ⟨hz, hrd⟩ := h.int
  have HZ := Lib.hid hz
  have HR := Lib.hid hrd
  have HB := Lib.hid hr
  clear hz hrd hr h
  go_enter Try.func94, Try.ntmps94
  go_wp2
  go_loop [9] (fun i => ∃ k : Nat, k ≤ n ∧ i = .int .i64 k ∧ ∀ j, j < k → inB 0 (zs[j]?.getD 0) m = true) (fun i => n - (intOf i).toNat)
  case atStart => exact ⟨0, Nat.zero_le _, rfl, fun j hj => absurd hj (Nat.not_lt_zero _)⟩
  case round =>
    obtain ⟨k, hk, rfl, hall⟩ := hrel
    have HA := Lib.hid hall
    clear hall
    by_cases hlt : k < n
    · rcases HR.out with he | ⟨g, off, rfl, hc⟩
      · omega
      have hcell := hc k hlt
      obtain ⟨x, hx⟩ : ∃ x, zs[k]?.getD 0 = x := ⟨_, rfl⟩
      have HX := Lib.hid hx
      rw [hx] at hcell
      clear hc hx
      by_cases h0 : x < 0
      · have HI := Lib.hid (show inB 0 x m = false from decide_eq_false (by omega))
        go_wp2
        go_ret
        exact ⟨retB (by rw [← HB.out]; exact (upB_no (by rw [HZ.out]; exact hlt) HX.out HI.out).symm), rfl⟩
      · by_cases h1 : m < x
        · have HI := Lib.hid (show inB 0 x m = false from decide_eq_false (by omega))
          go_wp2
          go_ret
          exact ⟨retB (by rw [← HB.out]; exact (upB_no (by rw [HZ.out]; exact hlt) HX.out HI.out).symm), rfl⟩
        · have HI := Lib.hid (show inB 0 x m = true from decide_eq_true (by omega))
          go_wp2
          go_round
          case rel => exact ⟨k + 1, by omega, by go_num, fun j hj => by
            by_cases e : j = k
            · subst e; rw [HX.out]; exact HI.out
            · exact HA.out j (by omega)⟩
          case measure => simp [intOf]; omega
    · obtain rfl : k = n := by omega
      go_wp2
      go_ret
      exact ⟨retB (by rw [← HB.out]; exact (upB_mk (by rw [HZ.out]; exact HA.out)).symm), rfl⟩
theorem c_spec_l04Salt_v (S : Int) (i : Nat) (z : Int) (w : World) (hs : keyB S = true) (hi : i ≤ 1000000) (hz : saltZ S i = z) : Calls Try.prog 83 #[.int .i64 S, .int .i64 i] w fun e w' => e = .returned (.int .i64 z) ∧ w' = w := by
  obtain ⟨s0, s1⟩ := keyB_yes hs
  have hi' : (i : Int) ≤ 1000000 := by omega
  have HZ := Lib.hid hz
  clear hs hz
  go_enter Try.func83, Try.ntmps83
  go_wp2
  go_ret
  exact ⟨by rw [← HZ.out]; rfl, rfl⟩
theorem c_spec_l04Salt_e (S : Int) (i : Nat) (z : Int) (w : World) (hs : keyB S = true) (hi : i ≤ 1000000) (hz : saltZ S i = z) : Calls Try.prog 83 #[.int .i64 S, .int .i64 i] w fun e w' => e = .returned (.int .i64 z) ∧ w = w' :=
  (c_spec_l04Salt_v S i z w hs hi hz).mono (by rintro e w' ⟨rfl, rfl⟩; exact ⟨rfl, rfl⟩)
theorem c_spec_l04Places (r m : Nat) (S key : Int) (w : World) (hok : GridOk r S m) (hk : keyB key = true) :
    Calls Try.prog 62 #[.int .i64 key, .int .i64 S, .int .i64 r, .int .i64 m] w (RetS 2 r (ints (gplaces S key m r)) w) := by
  have OK := Lib.hid hok
  have HK := Lib.hid hk
  have hr8 := hok.r8
  have hm5 := hok.n512
  obtain ⟨i0, hi, hz0, hz1, hz2⟩ := info_parts info_i64
  clear hok hk
  go_enter Try.func62, Try.ntmps62
  go_wp2
  go_loopw [9, 10] (fun v i wr => ∃ k : Nat, k ≤ r ∧ i = .int .i64 k ∧ wr.ownsRow w.heap.size 2 1 v k (ints (gplaces S key m k)) ∧ Ext w wr) (fun _ i _ => r - (intOf i).toNat)
  case atStart => exact ⟨0, Nat.zero_le _, rfl, World.ownsRow_made _ _ _ (Nat.le_refl _) (Nat.zero_le _) rfl, Ext.alloc _ _⟩
  case round =>
    obtain ⟨k, hk, rfl, hown, hext⟩ := hrel
    have HO := Lib.hid hown
    have HE := Lib.hid hext
    by_cases hlt : k < r
    · obtain ⟨z, hz⟩ : ∃ z, saltZ S k = z := ⟨_, rfl⟩
      obtain ⟨y, hy⟩ : ∃ y, belowN key z m = y := ⟨_, rfl⟩
      have HZ := Lib.hid hz
      have HY := Lib.hid hy
      have HZK := Lib.hid (show keyB z = true by rw [← hz]; exact saltZ_key S k)
      have HP := Lib.hid (show gplace S key m k = y by unfold gplace; rw [hz, hy])
      have HT := Lib.hid (gplaces_snoc S key m k)
      clear hown hext hz hy
      go_wp2_with fail
      refine (c_spec_l04Salt_e S k z _ OK.out.key (by omega) HZ.out).mono ?_; rintro e w' ⟨rfl, rfl⟩
      go_wp2_with fail
      refine (c_spec_l02Below_e key z m y _ HK.out HZK.out (by omega) HY.out).mono ?_; rintro e w' ⟨rfl, rfl⟩
      go_wp2_with (at_builtin; refine wpList_append_own _ rfl _ _ 40 rfl w.heap.size 2 i0 (.int .i64 0) 1 8 Try.underlying40 hi hz0 hz1 hz2 rfl (by decide) _ _ _ rfl (HO.out.alloc _) ⟨_, 0, none⟩ 1 1 [.int .i64 (y : Int)] rfl rfl ?c1 ?c2 ?c3 ?c4 ?c5 ?_)
      case c1 => exact one_cell_at _ _ _
      case c2 => intro u hu; simp at hu; subst hu; rfl
      case c3 => unfold maxLen; omega
      case c4 => omega
      case c5 => have := HE.out.size; simp; omega
      intro v' w1 hown' hgrow _
      have HO' := Lib.hid hown'
      have HE' := Lib.hid (app_step HE.out HO.out hgrow)
      clear hown' hgrow
      go_wp2
      go_roundw
      case rel => exact ⟨k + 1, by omega, by go_num, by rw [HT.out, HP.out]; exact HO'.out, HE'.out⟩
      case measure => simp [intOf]; omega
    · obtain rfl : k = r := by omega
      obtain ⟨a', c', hv, ho⟩ := Own.of_row (e := 0) HO.out
      subst hv
      have HO' := Lib.hid ho
      clear ho hown hext
      go_wp2
      go_ret
      exact ⟨_, _, rfl, HO'.out, HE.out⟩
end Go.Proofs.Ytfolflkbpdbkcaa
