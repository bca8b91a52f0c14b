/- CorrectedAt by the other side: a float is put into a list in ascending order, the ones behind it shifted. -/
import Derived.Test.YtfbapbgiegploaaCrc
namespace Go.Proofs.Ytfbapbgiegploaa
open Go.ChangeShapes Go.WideShapes Go.ChangeAt Go.RowKit Go.Proofs.Ytfbapbgiegploaa.Smg Go.Proofs.Ytfbapbgiegploaa.Flo
set_option linter.unusedVariables false
attribute [local go_sem] run_store_float
section
variable {α : Type} {enc : α → Value}
/-- those behind place M are shifted by one -/
def shF (g g1 : Nat → α × Nat) (M i : Nat) : α × Nat := if i ≤ M then g1 i else g (i - 1)
def putG (g : Nat → α × Nat) (k : Nat) (z : α) (i : Nat) : α × Nat := if i = k then (z, k) else g i
theorem valsG_put (g : Nat → α × Nat) (k : Nat) (z : α) : valsG enc (putG g k z) (k + 1) = valsG enc g k ++ [enc z] := by
  rw [valsG_snoc]
  congr 1
  · unfold valsG
    refine List.map_congr_left fun i hi => ?_
    have := List.mem_range.1 hi
    unfold putG; rw [if_neg (by omega)]
  · unfold putG; rw [if_pos rfl]
theorem shF_start {g : Nat → α × Nat} {z : α} {w : World} {b c k : Nat} {t : TypeId} {f : Nat → Value} (h : w.rowIs b t c (rowG enc (k + 1) (putG g k z) f)) : w.rowIs b t c (rowG enc (k + 1) (shF g (putG g k z) k) f) := h.congr fun i hi => by
  unfold rowG shF
  by_cases e : i < k + 1
  · rw [if_pos e, if_pos e, if_pos (by omega)]
  · rw [if_neg e, if_neg e]
theorem shF_step {g : Nat → α × Nat} {z : α} {w : World} {b c k i : Nat} {t : TypeId} {f : Nat → Value} (hi : i < k) (h : w.rowIs b t c (rowG enc (k + 1) (shF g (putG g k z) (i + 1)) f)) : (w.setCell ⟨b, i + 1, none⟩ (enc (g i).1)).rowIs b t c (rowG enc (k + 1) (shF g (putG g k z) i) f) := by
  refine (h.set (i + 1) _).congr fun j hj => ?_
  unfold rowG shF
  by_cases e : j = i + 1
  · subst e
    rw [if_pos rfl, if_pos (by omega), if_neg (by omega)]
    rfl
  · rw [if_neg e]
    by_cases e2 : j < k + 1
    · rw [if_pos e2, if_pos e2]
      by_cases e3 : j ≤ i
      · rw [if_pos e3, if_pos (by omega)]
      · rw [if_neg e3, if_neg (by omega)]
    · rw [if_neg e2, if_neg e2]
theorem shF_end {g : Nat → α × Nat} {z x : α} {w : World} {b c k J : Nat} {t : TypeId} {f : Nat → Value} (hJ : J ≤ k) (hx : (g k).1 = x) (h : w.rowIs b t c (rowG enc (k + 1) (shF g (putG g k z) J) f)) : (w.setCell ⟨b, J, none⟩ (enc x)).rowIs b t c (rowG enc (k + 1) (rotF g J k (k + 1)) f) := by
  refine (h.set J _).congr fun j hj => ?_
  unfold rowG shF rotF
  by_cases e : j = J
  · subst e
    rw [if_pos rfl, if_pos (by omega), if_pos (by omega), show j + (k - j) = k by omega, hx]
  · rw [if_neg e]
    by_cases e2 : j < k + 1
    · rw [if_pos e2, if_pos e2]
      by_cases e3 : j ≤ J
      · rw [if_pos e3, if_neg (show ¬ (J ≤ j ∧ j < J + (k + 1 - k)) by omega), if_neg (show ¬ (J + (k + 1 - k) ≤ j ∧ j < k + 1) by omega)]
        unfold putG
        rw [if_neg (by omega)]
      · rw [if_neg e3, if_neg (show ¬ (J ≤ j ∧ j < J + (k + 1 - k)) by omega), if_pos (show J + (k + 1 - k) ≤ j ∧ j < k + 1 by omega), show k + 1 - k = 1 by omega]
    · rw [if_neg e2, if_neg e2]
theorem shF_at {g : Nat → α × Nat} {z : α} {k i : Nat} (hi : i < k) : shF g (putG g k z) (i + 1) i = g i := by
  unfold shF putG
  rw [if_pos (by omega), if_neg (by omega)]
end
set_option maxRecDepth 100000 in
set_option maxHeartbeats 8000000 in
theorem c_spec_CorrectedAt (W D S : Int) (a : Option Addr) (n cap : Nat) (zs : List Int) (key : Int) (w : World) {v : Nat} {b : Bool} (hv : corR W D S zs key = (v, b)) (hm : n ≤ maxLen) (h : Reads w a n (ints zs)) :
    Calls Try.prog 71 #[.agg #[.int .i64 W, .int .i64 D, .int .i64 S, .slice a n cap], .int .i64 key] w fun e w' => e = .returned (.tuple #[.float .f32 v, .bool b]) ∧ Ext w w' := by
  have H := Lib.hid h
  have BX := Lib.hid (Box.alloc w #[.int .i64 W, .int .i64 D, .int .i64 S, .slice a n cap] 57)
  cases hc : cellsB W D S zs
  · rw [corR_no (by rw [hc]; rfl)] at hv
    simp only [Prod.mk.injEq] at hv
    obtain ⟨rfl, rfl⟩ := hv
    have HC := Lib.hid hc
    clear hc h
    go_enter Try.func71, Try.ntmps71
    go_wp2_with (go_at_call 173; refine (c_spec_l03Is _ W D S a n cap zs _ HC.out BX.out hm (H.out.on (by (repeat (first | assumption | exact Ext.refl _ | (with_reducible refine Ext.stepS ?_ (by first | exact Nat.le_refl _ | (simp; done) | (simp; omega)) _) | (with_reducible refine Ext.stepN ?_ _) | (with_reducible refine Ext.stepD ?_) | (with_reducible refine Ext.stepA ?_ _)))))).mono ?_; rintro e u1 ⟨rfl, q, rfl⟩)
    go_ret2
    exact ⟨rfl, by (repeat (first | assumption | exact Ext.refl _ | (with_reducible refine Ext.stepS ?_ (by first | exact Nat.le_refl _ | (simp; done) | (simp; omega)) _) | (with_reducible refine Ext.stepN ?_ _) | (with_reducible refine Ext.stepD ?_) | (with_reducible refine Ext.stepA ?_ _)))⟩
  · cases hk : keyB key
    · rw [corR_no (by rw [hk, Bool.and_false])] at hv
      simp only [Prod.mk.injEq] at hv
      obtain ⟨rfl, rfl⟩ := hv
      have HC := Lib.hid hc
      have HK := Lib.hid hk
      clear hc hk h
      go_enter Try.func71, Try.ntmps71
      go_wp2_with (first | (go_at_call 173; refine (c_spec_l03Is _ W D S a n cap zs _ HC.out BX.out hm (H.out.on (by (repeat (first | assumption | exact Ext.refl _ | (with_reducible refine Ext.stepS ?_ (by first | exact Nat.le_refl _ | (simp; done) | (simp; omega)) _) | (with_reducible refine Ext.stepN ?_ _) | (with_reducible refine Ext.stepD ?_) | (with_reducible refine Ext.stepA ?_ _)))))).mono ?_; rintro e u1 ⟨rfl, q, rfl⟩) | (go_at_call 174; refine (c_spec_l02Key_e key _ HK.out).mono ?_; rintro e w' ⟨rfl, rfl⟩))
      go_ret2
      exact ⟨rfl, by (repeat (first | assumption | exact Ext.refl _ | (with_reducible refine Ext.stepS ?_ (by first | exact Nat.le_refl _ | (simp; done) | (simp; omega)) _) | (with_reducible refine Ext.stepN ?_ _) | (with_reducible refine Ext.stepD ?_) | (with_reducible refine Ext.stepA ?_ _)))⟩
    · obtain ⟨m, d, rfl, rfl, ok⟩ := cells_ok hc
      rw [corR_y ok hk] at hv
      simp only [Prod.mk.injEq] at hv
      obtain ⟨rfl, rfl⟩ := hv
      have hd1 := ok.d1
      have hd6 := ok.d6
      have m2 := ok.m2
      have HC := Lib.hid hc
      have HK := Lib.hid hk
      have OK := Lib.hid ok
      have hz := h.int.1
      subst hz
      obtain ⟨ab, ao, rfl⟩ : ∃ b off, a = some ⟨b, off, none⟩ := by
        rcases h.2 with h0 | ⟨b', off', rfl, _⟩
        · have := ok.len; have := Nat.mul_le_mul m2 hd1; omega
        · exact ⟨_, _, rfl⟩
      obtain ⟨i0, hi, hz0, hz1, hz2⟩ := info_parts info_f32
      have HL := Lib.hid (corL_length m d S key zs)
      have HFB := Lib.hid (corL_fin (key := key) ok)
      have HG := Lib.hid (fun i => corL_get m d S key zs i)
      obtain ⟨L, hL⟩ : ∃ L, corL m d S zs key = L := ⟨_, rfl⟩
      rw [hL] at HL HFB HG ⊢
      obtain ⟨M1, hM⟩ : ∃ M : Int, (m : Int) - 1 = M := ⟨_, rfl⟩
      have HM1 := Lib.hid hM
      have hM1 : 1 ≤ M1 := by omega
      have hM2 : M1 ≤ 63 := by have := ok.m64; omega
      clear hc hk h ok hL m2
      go_enter Try.func71, Try.ntmps71
      go_wp2_with (first | (go_at_call 173; refine (c_spec_l03Is _ m d S _ _ cap zs _ HC.out BX.out hm (H.out.on (by (repeat (first | assumption | exact Ext.refl _ | (with_reducible refine Ext.stepS ?_ (by first | exact Nat.le_refl _ | (simp; done) | (simp; omega)) _) | (with_reducible refine Ext.stepN ?_ _) | (with_reducible refine Ext.stepD ?_) | (with_reducible refine Ext.stepA ?_ _)))))).mono ?_; rintro e u1 ⟨rfl, q, rfl⟩) | (go_at_call 174; refine (c_spec_l02Key_e key _ HK.out).mono ?_; rintro e w' ⟨rfl, rfl⟩))
      go_loopw [6, 7] (fun v i wr => ∃ (k : Nat) (g : Nat → Nat × Nat), k ≤ d ∧ i = .int .i64 k ∧ wr.ownsRow (w.heap.size + 1) 28 1 v k (valsG (Value.float .f32) g k) ∧ Shuf 0 k (tagF L 0) g ∧ SortedOn (TL leF) g 0 k ∧ Ext (w.alloc (.cells #[.int .i64 m, .int .i64 d, .int .i64 S, .slice (some ⟨ab, ao, none⟩) zs.length cap] 57)) wr) (fun _ i _ => d - (intOf i).toNat)
      case atStart => exact ⟨0, tagF L 0, Nat.zero_le _, rfl, made_at _ _ _ (by first | omega | (simp; done) | (simp; omega)) (by omega) (Nat.zero_le _) rfl, .refl _, SortedOn.one _ (by omega), by (repeat (first | assumption | exact Ext.refl _ | (with_reducible refine Ext.stepS ?_ (by first | exact Nat.le_refl _ | (simp; done) | (simp; omega)) _) | (with_reducible refine Ext.stepN ?_ _) | (with_reducible refine Ext.stepD ?_) | (with_reducible refine Ext.stepA ?_ _)))⟩
      case round =>
        obtain ⟨k, g, hk, rfl, hown, hsh, hso, hext⟩ := hrel
        have HO := Lib.hid hown
        have HE := Lib.hid hext
        have HES := Lib.hid hext.size
        have BX2 := Lib.hid (BX.out.on hext)
        have HSH := Lib.hid hsh
        have HSO := Lib.hid hso
        obtain ⟨b0, b1, b2, b3⟩ := BX2.out.four
        clear hown hext hsh hso
        obtain ⟨la, lc, rfl, hol⟩ := Own.of_row (e := 0) HO.out
        have HOL := Lib.hid hol
        clear hol
        by_cases hlt : k < d
        · have hltI : (k : Int) < (d : Int) := by omega
          obtain ⟨p, hp⟩ : ∃ p, placeN m S key k = p := ⟨_, rfl⟩
          have hpl : p < zs.length := by rw [← hp, OK.out.len]; exact placeN_lt S key (by have := OK.out.m2; omega) hlt
          obtain ⟨q, hq⟩ := OK.out.cor (key := key) hlt
          have hg := HG.out k hlt
          have h1 := OK.out.at2 key hlt
          have h2 := OK.out.sum hlt
          rw [hp] at hq hg h1
          obtain ⟨c, hc⟩ : ∃ c, zs[p]?.getD 0 = c := ⟨_, rfl⟩
          obtain ⟨s, hs⟩ : ∃ s, rowSum m zs k = s := ⟨_, rfl⟩
          rw [hc] at hq hg h1
          rw [hs] at hq hg h2
          rw [HM1.out] at hq hg
          obtain ⟨o, ho⟩ : ∃ o, s - c = o := ⟨_, rfl⟩
          rw [ho] at hq hg
          have hw : IntKind.i64.wrap (s - c) = o := by rw [← ho]; exact wrap_mid (by omega) (by omega)
          have HQ := Lib.hid hq
          have hqu : ∀ wx : World, (binOp .quo 28 (.float .f32 (floatOfInt .f32 o)) (.float .f32 (floatOfInt .f32 M1))).run Try.prog wx = .ok (.float .f32 q) wx := fun wx => by
            rw [run_fl_quo, flR_c HQ.out.e1, flD_c HQ.out.e1, World.drewN_zero]
          obtain ⟨x, hx⟩ : ∃ r, corB c o M1 = r := ⟨_, rfl⟩
          have hsu : ∀ wx : World, (binOp .sub 28 (.float .f32 (floatOfInt .f32 c)) (.float .f32 q)).run Try.prog wx = .ok (.float .f32 x) wx := fun wx => by
            rw [run_fl_sub, flR_c HQ.out.e2, flD_c HQ.out.e2, World.drewN_zero, hx]
          have HXF := Lib.hid (show isFin .f32 x = true by rw [← hx]; exact HQ.out.e3)
          have HGK := Lib.hid (show (g k).1 = x by rw [HSH.out.out k (by omega), ← hx, ← hg]; rfl)
          have HP := Lib.hid hp
          have HS := Lib.hid (show sumZ (fun i => zs[k * m + i]?.getD 0) m = s from hs)
          have hac : wr.cell? ⟨ab, ao + p, none⟩ = some (.int .i64 c) := by
            rcases (H.out.on ((Ext.alloc _ _).trans HE.out)).int.2 with h0 | ⟨b', off', he, hq⟩
            · omega
            · cases he; rw [hq p hpl, hc]
          have hpl' : (p : Int) < (zs.length : Int) := by omega
          have hp0 : (0 : Int) ≤ (p : Int) := by omega
          have HTG := Lib.hid (show ∀ i, i < k → (g i).2 < (g k).2 from fun i hi => by
            rw [HSH.out.out k (by omega)]
            exact HSH.out.all (fun x => x.2 < k) (fun q h1 h2 => h2) i (Nat.zero_le _) hi)
          have HFN := Lib.hid (show ∀ i, i < k → isFin .f32 (g i).1 = true from fun i hi => HSH.out.all (fun x => isFin .f32 x.1 = true) (fun q h1 h2 => finB_at HFB.out (by rw [HL.out]; omega)) i (Nat.zero_le _) hi)
          have p1 : 1 ≤ m := by have := OK.out.m2; omega
          have p2 : k ≤ 6 := by omega
          have HRB := Lib.hid (fun (hk : 0 < k) => rowG_owns HO.out hk)
          clear hq hg h1 h2 hp hc hs ho hx
          go_wp2
          go_quiet ((go_at_call 175; exact Calls.quiet_of (c_spec_l03Place_v w.heap.size m (d : Int) S key (some ⟨ab, ao, none⟩) zs.length cap k _ p1 OK.out.m64 p2 OK.out.key HK.out (BX2.out.on (by (repeat (first | assumption | exact Ext.refl _ | (with_reducible refine Ext.stepS ?_ (by first | exact Nat.le_refl _ | (simp; done) | (simp; omega)) _) | (with_reducible refine Ext.stepN ?_ _) | (with_reducible refine Ext.stepD ?_) | (with_reducible refine Ext.stepA ?_ _))))) HP.out)))
          obtain ⟨wu, hwu⟩ : ∃ wu, wr.drewN nq = wu := ⟨_, rfl⟩
          rw [hwu]
          have EU := Lib.hid (show Ext wr wu by rw [← hwu]; exact Ext.drewN _ _)
          have HOU := Lib.hid (ownsOn HO.out EU.out)
          have BXU := Lib.hid (BX2.out.on EU.out)
          have HEU := Lib.hid (HE.out.trans EU.out)
          have HRD := Lib.hid (H.out.on ((Ext.alloc _ _).trans HEU.out))
          have HRU := Lib.hid (fun (hk : 0 < k) => rowG_owns HOU.out hk)
          clear hwu b0 b1 b2 b3 hac
          obtain ⟨b0, b1, b2, b3⟩ := BXU.out.four
          go_wp2
          go_quiet ((go_at_call 176; exact Calls.quiet_of (c_spec_l03Row_vC w.heap.size m d k S (some ⟨ab, ao, none⟩) zs.length cap zs _ OK.out hlt (BXU.out.on (by (repeat (first | assumption | exact Ext.refl _ | (with_reducible refine Ext.stepS ?_ (by first | exact Nat.le_refl _ | (simp; done) | (simp; omega)) _) | (with_reducible refine Ext.stepN ?_ _) | (with_reducible refine Ext.stepD ?_) | (with_reducible refine Ext.stepA ?_ _))))) (HRD.out.on (by (repeat (first | assumption | exact Ext.refl _ | (with_reducible refine Ext.stepS ?_ (by first | exact Nat.le_refl _ | (simp; done) | (simp; omega)) _) | (with_reducible refine Ext.stepN ?_ _) | (with_reducible refine Ext.stepD ?_) | (with_reducible refine Ext.stepA ?_ _))))) rfl HS.out)))
          go_wp2
          clear b0 b1 b2 b3
          go_loopw [10] (fun j wq => ∃ J q : Nat, J ≤ k ∧ j = .int .i64 J ∧ (∀ i, J ≤ i → i < k → fkey x < fkey (g i).1) ∧ wq = wu.drewN q) (fun j _ => (intOf j).toNat)
          case atStart => exact ⟨k, _, Nat.le_refl _, rfl, fun i h1 h2 => by omega, by first | rfl | simp⟩
          case round =>
            obtain ⟨J, q, hJ, rfl, hLL, hwq⟩ := hrel
            have HLL := Lib.hid hLL
            have HOq := Lib.hid (show wr.ownsRow (w.heap.size + 1) 28 1 (.slice la k lc) k (valsG (Value.float .f32) g k) by rw [hwq]; exact ownsOn HOU.out (Ext.drewN _ _))
            have HEq := Lib.hid (show Ext (w.alloc (.cells #[.int .i64 m, .int .i64 d, .int .i64 S, .slice (some ⟨ab, ao, none⟩) zs.length cap] 57)) wr by rw [hwq]; exact HEU.out.trans (Ext.drewN _ _))
            have HWQ := Lib.hid hwq
            have HSQ := Lib.hid HEq.out.size
            clear hLL hwq
            by_cases hJ0 : J = 0
            · have n0 : ¬ (0 : Int) < (J : Int) := by omega
              have n1 : decide ((0 : Int) < (J : Int)) = false := decide_eq_false n0
              have HSS := Lib.hid (show SortedOn (TL leF) (rotF g J k (k + 1)) 0 (k + 1) from down_sorted (TL.trans leF_tr) HSO.out (Nat.zero_le _) hJ (fun h => by omega) (fun h => TL.of_lt leF_tot (by have := HLL.out J (Nat.le_refl _) h; rw [← HGK.out] at this; exact decide_eq_false (by omega))))
              have HJJ := Lib.hid hJ0
              clear hJ0
              have HSU := Lib.hid (show Shuf 0 (k + 1) (tagF L 0) (rotF g J k (k + 1)) from (HSH.out.mono (Nat.le_refl _) (by omega)).trans (by have := rot_down_shuf g k (lo := 0) (hi := k + 1) (Nat.le_refl _) (k - J) (by omega) (by omega); rwa [show k - (k - J) = J by omega] at this))
              obtain ⟨K, hK⟩ : ∃ K, k + 1 = K := ⟨_, rfl⟩
              have HKK := Lib.hid hK
              have k1 : (K : Int) - 1 = (k : Int) := by omega
              clear hK
              go_wp2_with (go_loud (at_builtin; refine wpList_append_own _ rfl _ _ 27 rfl (w.heap.size + 1) 28 i0 (.float .f32 0) 1 4 Try.underlying27 hi hz0 hz1 hz2 rfl (by decide) _ _ _ rfl (HOq.out.alloc _) ⟨_, 0, none⟩ 1 1 [.float .f32 0] rfl rfl (one_cell_at _ _ _) (by intro u hu; simp at hu; subst hu; rfl) (by unfold maxLen; omega) (by omega) (by have := HSQ.out; simp at this; first | (simp; omega) | omega) ?_; intro v' w1 hown' hgrow _; have HX1 := Lib.hid (show Ext (w.alloc (.cells #[.int .i64 m, .int .i64 d, .int .i64 S, .slice (some ⟨ab, ao, none⟩) zs.length cap] 57)) w1 from Below.grown (HEq.out.stepA _) hgrow (by have := HSQ.out; simp at this; first | omega | (simp; omega)) (fun j hj => by have := (HOq.out.lt j hj).1; first | omega | (simp; omega))); rw [← valsG_put g k 0] at hown'; have HOW := Lib.hid hown'; obtain ⟨nb, nc, nf, hne, hnb, hnc, hnm, hnr⟩ := rowG_owns HOW.out (by omega); subst hne; have HNR := Lib.hid (shF_start hnr); have HNB := Lib.hid hnb; clear hown' hgrow hnr hnb))
              rw [HKK.out] at hnc
              rw [HKK.out]
              go_wp2
              go_loopw [11] (fun j wq2 => ∃ M : Nat, J ≤ M ∧ M ≤ k ∧ j = .int .i64 M ∧ wq2.rowIs nb 28 nc (rowG (Value.float .f32) (k + 1) (shF g (putG g k 0) M) nf) ∧ Touch nb (nb + 1) w1 wq2) (fun j _ => (intOf j).toNat)
              case atStart => exact ⟨k, hJ, Nat.le_refl _, by first | rfl | go_num, HNR.out, Touch.refl _ _ _⟩
              case round =>
                obtain ⟨M, hJM, hMk, rfl, hrow, ht⟩ := hrel
                have HRW := Lib.hid hrow
                have HT := Lib.hid ht
                clear hrow ht
                by_cases hM0 : J < M
                · obtain ⟨l, hl⟩ : ∃ l, M = l + 1 := ⟨M - 1, by omega⟩
                  have hlk : l < k := by omega
                  have q1 : (M : Int) - 1 = (l : Int) := by omega
                  have q2 : (J : Int) < (M : Int) := by omega
                  have q3 : (l : Int) < (K : Int) := by omega
                  have q4 : (M : Int) < (K : Int) := by omega
                  have HLM := Lib.hid hl
                  have z1 := HRW.out.cell (i := l) (by have := HKK.out; omega)
                  have z2 := HRW.out.frozen M
                  obtain ⟨z3, hz3⟩ : ∃ v, rowG (Value.float .f32) (k + 1) (shF g (putG g k 0) M) nf M = v := ⟨_, rfl⟩
                  have z4 := HRW.out.cell (i := M) (by have := HKK.out; omega)
                  rw [hz3] at z4
                  rw [rowG_at (by omega), hl, shF_at hlk] at z1
                  obtain ⟨y, hy⟩ : ∃ y, (g l).1 = y := ⟨_, rfl⟩
                  rw [hy] at z1
                  have HRS := Lib.hid (show (wr.setCell ⟨nb, M, none⟩ (.float .f32 y)).rowIs nb 28 nc (rowG (Value.float .f32) (k + 1) (shF g (putG g k 0) l) nf) by
                    have h0 := HRW.out
                    rw [hl] at h0 ⊢
                    rw [← hy]
                    exact shF_step hlk h0)
                  clear hl hy hz3 hM0
                  go_wp2
                  go_roundw
                  case rel => exact ⟨l, by have := HLM.out; omega, by omega, by first | rfl | go_num, HRS.out, touch1 HT.out _ _⟩
                  case measure => simp [intOf]; have := HLM.out; omega
                · obtain rfl : M = J := by omega
                  have q2 : ¬ (M : Int) < (M : Int) := by omega
                  have q4 : (M : Int) < (K : Int) := by omega
                  have z2 := HRW.out.frozen M
                  obtain ⟨z3, hz3⟩ : ∃ v, rowG (Value.float .f32) (k + 1) (shF g (putG g k 0) M) nf M = v := ⟨_, rfl⟩
                  have z4 := HRW.out.cell (i := M) (by have := HKK.out; omega)
                  rw [hz3] at z4
                  have HRS := Lib.hid (shF_end (x := x) hMk HGK.out HRW.out)
                  clear hz3 hM0
                  go_wp2
                  go_roundw
                  case rel => exact ⟨k + 1, rotF g M k (k + 1), by omega, by go_num, by rw [← HKK.out]; exact owns_rowG (by rw [HKK.out]; exact hnc) hnm HNB.out HRS.out, HSU.out, HSS.out, Touch.below HX1.out (touch1 HT.out _ _) (by have := HNB.out; simp; omega) (Below.size HX1.out)⟩
                  case measure => simp [intOf]; omega
            · obtain ⟨i, hi'⟩ : ∃ i, J = i + 1 := ⟨J - 1, by omega⟩
              obtain ⟨y, hy⟩ : ∃ y, (g i).1 = y := ⟨_, rfl⟩
              obtain ⟨lb, lc', lf, hle, hlb, hlc, hlm, hlr⟩ := HRU.out (by omega)
              cases hle
              have c2 : wr.cell? ⟨lb, i, none⟩ = some (.float .f32 y) := by
                have := (rowD hlr q).cell (i := i) (by omega)
                rw [rowG_at (by omega), hy, ← HWQ.out] at this
                exact this
              have e2 : (J : Int) - 1 = (i : Int) := by omega
              have e3 : (0 : Int) < (J : Int) := by omega
              have e5 : (i : Int) < (k : Int) := by omega
              have kl := key_gt (x := y) (y := x) (by rw [← hy]; exact HFN.out i (by omega)) HXF.out
              have HI2 := Lib.hid hi'
              have HY := Lib.hid hy
              by_cases hxy : fkey x < fkey y
              · rw [decide_eq_true hxy] at kl
                have HXY := Lib.hid hxy
                clear hi' hy hxy hlr hlb hJ0
                go_wp2
                go_roundw
                case rel =>
                  refine ⟨i, q, by omega, by first | rfl | go_num, fun l h1 h2 => ?_, HWQ.out⟩
                  by_cases e : l = i
                  · subst e; rw [HY.out]; exact HXY.out
                  · exact HLL.out l (by have := HI2.out; omega) h2
                case measure => simp [intOf]; have := HI2.out; omega
              · rw [decide_eq_false hxy] at kl
                have HSS := Lib.hid (show SortedOn (TL leF) (rotF g J k (k + 1)) 0 (k + 1) from down_sorted (TL.trans leF_tr) HSO.out (Nat.zero_le _) hJ (fun h => by rw [show J - 1 = i by omega]; exact TL.of_tag (by rw [HGK.out, hy]; exact decide_eq_true (by omega)) (HTG.out i (by omega))) (fun h => TL.of_lt leF_tot (by have := HLL.out J (Nat.le_refl _) h; rw [← HGK.out] at this; exact decide_eq_false (by omega))))
                clear hi' hy hxy hlr hlb hJ0
                have HSU := Lib.hid (show Shuf 0 (k + 1) (tagF L 0) (rotF g J k (k + 1)) from (HSH.out.mono (Nat.le_refl _) (by omega)).trans (by have := rot_down_shuf g k (lo := 0) (hi := k + 1) (Nat.le_refl _) (k - J) (by omega) (by omega); rwa [show k - (k - J) = J by omega] at this))
                obtain ⟨K, hK⟩ : ∃ K, k + 1 = K := ⟨_, rfl⟩
                have HKK := Lib.hid hK
                have k1 : (K : Int) - 1 = (k : Int) := by omega
                clear hK
                go_wp2_with (go_loud (at_builtin; refine wpList_append_own _ rfl _ _ 27 rfl (w.heap.size + 1) 28 i0 (.float .f32 0) 1 4 Try.underlying27 hi hz0 hz1 hz2 rfl (by decide) _ _ _ rfl (HOq.out.alloc _) ⟨_, 0, none⟩ 1 1 [.float .f32 0] rfl rfl (one_cell_at _ _ _) (by intro u hu; simp at hu; subst hu; rfl) (by unfold maxLen; omega) (by omega) (by have := HSQ.out; simp at this; first | (simp; omega) | omega) ?_; intro v' w1 hown' hgrow _; have HX1 := Lib.hid (show Ext (w.alloc (.cells #[.int .i64 m, .int .i64 d, .int .i64 S, .slice (some ⟨ab, ao, none⟩) zs.length cap] 57)) w1 from Below.grown (HEq.out.stepA _) hgrow (by have := HSQ.out; simp at this; first | omega | (simp; omega)) (fun j hj => by have := (HOq.out.lt j hj).1; first | omega | (simp; omega))); rw [← valsG_put g k 0] at hown'; have HOW := Lib.hid hown'; obtain ⟨nb, nc, nf, hne, hnb, hnc, hnm, hnr⟩ := rowG_owns HOW.out (by omega); subst hne; have HNR := Lib.hid (shF_start hnr); have HNB := Lib.hid hnb; clear hown' hgrow hnr hnb))
                rw [HKK.out] at hnc
                rw [HKK.out]
                go_wp2
                go_loopw [11] (fun j wq2 => ∃ M : Nat, J ≤ M ∧ M ≤ k ∧ j = .int .i64 M ∧ wq2.rowIs nb 28 nc (rowG (Value.float .f32) (k + 1) (shF g (putG g k 0) M) nf) ∧ Touch nb (nb + 1) w1 wq2) (fun j _ => (intOf j).toNat)
                case atStart => exact ⟨k, hJ, Nat.le_refl _, by first | rfl | go_num, HNR.out, Touch.refl _ _ _⟩
                case round =>
                  obtain ⟨M, hJM, hMk, rfl, hrow, ht⟩ := hrel
                  have HRW := Lib.hid hrow
                  have HT := Lib.hid ht
                  clear hrow ht
                  by_cases hM0 : J < M
                  · obtain ⟨l, hl⟩ : ∃ l, M = l + 1 := ⟨M - 1, by omega⟩
                    have hlk : l < k := by omega
                    have q1 : (M : Int) - 1 = (l : Int) := by omega
                    have q2 : (J : Int) < (M : Int) := by omega
                    have q3 : (l : Int) < (K : Int) := by omega
                    have q4 : (M : Int) < (K : Int) := by omega
                    have HLM := Lib.hid hl
                    have z1 := HRW.out.cell (i := l) (by have := HKK.out; omega)
                    have z2 := HRW.out.frozen M
                    obtain ⟨z3, hz3⟩ : ∃ v, rowG (Value.float .f32) (k + 1) (shF g (putG g k 0) M) nf M = v := ⟨_, rfl⟩
                    have z4 := HRW.out.cell (i := M) (by have := HKK.out; omega)
                    rw [hz3] at z4
                    rw [rowG_at (by omega), hl, shF_at hlk] at z1
                    obtain ⟨y, hy⟩ : ∃ y, (g l).1 = y := ⟨_, rfl⟩
                    rw [hy] at z1
                    have HRS := Lib.hid (show (wr.setCell ⟨nb, M, none⟩ (.float .f32 y)).rowIs nb 28 nc (rowG (Value.float .f32) (k + 1) (shF g (putG g k 0) l) nf) by
                      have h0 := HRW.out
                      rw [hl] at h0 ⊢
                      rw [← hy]
                      exact shF_step hlk h0)
                    clear hl hy hz3 hM0
                    go_wp2
                    go_roundw
                    case rel => exact ⟨l, by have := HLM.out; omega, by omega, by first | rfl | go_num, HRS.out, touch1 HT.out _ _⟩
                    case measure => simp [intOf]; have := HLM.out; omega
                  · obtain rfl : M = J := by omega
                    have q2 : ¬ (M : Int) < (M : Int) := by omega
                    have q4 : (M : Int) < (K : Int) := by omega
                    have z2 := HRW.out.frozen M
                    obtain ⟨z3, hz3⟩ : ∃ v, rowG (Value.float .f32) (k + 1) (shF g (putG g k 0) M) nf M = v := ⟨_, rfl⟩
                    have z4 := HRW.out.cell (i := M) (by have := HKK.out; omega)
                    rw [hz3] at z4
                    have HRS := Lib.hid (shF_end (x := x) hMk HGK.out HRW.out)
                    clear hz3 hM0
                    go_wp2
                    go_roundw
                    case rel => exact ⟨k + 1, rotF g M k (k + 1), by omega, by go_num, by rw [← HKK.out]; exact owns_rowG (by rw [HKK.out]; exact hnc) hnm HNB.out HRS.out, HSU.out, HSS.out, Touch.below HX1.out (touch1 HT.out _ _) (by have := HNB.out; simp; omega) (Below.size HX1.out)⟩
                    case measure => simp [intOf]; omega
        · obtain rfl : k = d := by omega
          have HE2 := Lib.hid (sortF_of HL.out HSH.out HSO.out)
          obtain ⟨lb, lc', lf, hle, hlb, hlc, hlm, hlr⟩ := rowG_owns HO.out (by omega)
          cases hle
          obtain ⟨q, hq⟩ : ∃ q, (k - 1) / 2 = q := ⟨_, rfl⟩
          have hql : q < k := by omega
          have e1 : ((k : Int) - 1) / 2 = (q : Int) := by omega
          have e6 : Int.tdiv ((k : Int) - 1) 2 = (q : Int) := by rw [Int.tdiv_eq_ediv_of_nonneg (by omega)]; exact e1
          have e2 : (q : Int) < (k : Int) := by omega
          have e4 : (1 : Int) ≤ (k : Int) := by omega
          have e5 : (k : Int) ≤ 6 := by omega
          have hcell := hlr.cell (i := q) (by omega)
          rw [rowG_at hql] at hcell
          have HV := Lib.hid (show (g q).1 = midF L by
            unfold midF
            rw [← HE2.out, HL.out, hq, List.getElem?_map, rowL_get g k q hql]; rfl)
          rw [HV.out] at hcell
          have HF := Lib.hid (show isFin .f32 (midF L) = true by
            rw [← HV.out]; exact HSH.out.all (fun x => isFin .f32 x.1 = true) (fun q h1 h2 => finB_at HFB.out (by rw [HL.out]; omega)) q (Nat.zero_le _) hql)
          clear hlr hq hlb
          go_wp2_with fail
          refine (c_spec_l02Number_c _ _ HF.out).mono ?_; rintro e w' ⟨rfl, q2, rfl⟩
          go_wp2
          go_ret2
          exact ⟨rfl, ((Ext.alloc _ _).trans HE.out).trans (Ext.drewN _ _)⟩
end Go.Proofs.Ytfbapbgiegploaa
