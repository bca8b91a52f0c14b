/- The median of a few numbers: sorted by insertion, on both sides. -/
import Derived.Test.YtfbapbgiegploaaCis3
namespace Go.Proofs.Ytfbapbgiegploaa
open Go.ChangeShapes Go.WideShapes Go.ChangeAt Go.RowKit
set_option linter.unusedVariables false
def medZ (zs : List Int) : Int := (sortN (zs.length - 1) zs)[(zs.length - 1) / 2]?.getD 0
def cmpZ (x y : Int) : Int := if x < y then -1 else if y < x then 1 else 0
theorem cmpZ_lt {x y : Int} (h : x < y) : cmpZ x y = -1 := if_pos h
theorem cmpZ_ge {x y : Int} (h : ¬ x < y) : cmpZ x y = 0 ∨ cmpZ x y = 1 := by
  unfold cmpZ; rw [if_neg h]; split
  · exact .inr rfl
  · exact .inl rfl
theorem touchOne {w u : World} {g : Nat} (h : Touch g (g + 1) w u) (i : Nat) (v : Value) : Touch g (g + 1) w (u.setCell ⟨g, i, none⟩ v) := h.trans (Touch.setCell _ (a := ⟨g, i, none⟩) (Nat.le_refl _) (Nat.lt_succ_self _) _)
theorem touchDrew {lo hi : Nat} {w u : World} (h : Touch lo hi w u) (n : Nat) : Touch lo hi w (u.drewN n) := h.trans (Touch.of_ext (Ext.drewN _ _) _ _)
theorem swap_row {zs : List Int} {f : Nat → Value} {w : World} {g c J i : Nat} {t : TypeId} {x y : Int} (h : w.rowIs g t c (rowT zs f)) (hJ : J < zs.length) (hi : i < zs.length) (hx : zs[J]?.getD 0 = x) (hy : zs[i]?.getD 0 = y) :
    ((w.setCell ⟨g, J, none⟩ (.int .i64 y)).setCell ⟨g, i, none⟩ (.int .i64 x)).rowIs g t c (rowT (swapL zs J i) f) := by
  have h1 := rowT_set h hJ y
  have h2 := rowT_set h1 (k := i) (by rw [List.length_set]; exact hi) x
  unfold swapL
  rw [hx, hy]
  exact h2
theorem c_cmpNaN (x : Int) (w : World) : Calls Try.prog 272 #[.int .i64 x] w fun e w' => e = .returned (.bool false) ∧ w = w' := by
  go_enter Try.func272, Try.ntmps272
  go_wp2
  go_ret
  exact ⟨rfl, rfl⟩
theorem c_cmpCompare (x y v : Int) (w : World) (h : cmpZ x y = v) : Calls Try.prog 212 #[.int .i64 x, .int .i64 y] w fun e w' => e = .returned (.int .i64 v) ∧ w' = w := by
  by_cases h1 : x < y
  · have H := Lib.hid (show v = -1 by rw [← h]; exact cmpZ_lt h1)
    clear h
    go_enter Try.func212, Try.ntmps212
    go_wp2_with (go_at_call 272; refine (c_cmpNaN _ _).mono ?_; rintro e w' ⟨rfl, rfl⟩)
    go_ret
    exact ⟨by rw [H.out]; rfl, rfl⟩
  · by_cases h2 : y < x
    · have H := Lib.hid (show v = 1 by rw [← h]; unfold cmpZ; rw [if_neg h1, if_pos h2])
      clear h
      go_enter Try.func212, Try.ntmps212
      go_wp2_with (go_at_call 272; refine (c_cmpNaN _ _).mono ?_; rintro e w' ⟨rfl, rfl⟩)
      go_ret
      exact ⟨by rw [H.out]; rfl, rfl⟩
    · have H := Lib.hid (show v = 0 by rw [← h]; unfold cmpZ; rw [if_neg h1, if_neg h2])
      clear h
      go_enter Try.func212, Try.ntmps212
      go_wp2_with (go_at_call 272; refine (c_cmpNaN _ _).mono ?_; rintro e w' ⟨rfl, rfl⟩)
      go_ret
      exact ⟨by rw [H.out]; rfl, rfl⟩
set_option maxHeartbeats 4000000 in
theorem c_insertionSort (g n c : Nat) (zs : List Int) (f : Nat → Value) (w : World) (hn1 : 1 ≤ n) (hn : n ≤ 1000) (hz : zs.length = n) (hc : n ≤ c) (h : w.rowIs g 2 c (rowT zs f)) :
    Calls Try.prog 296 #[.slice (some ⟨g, 0, none⟩) n c, .int .i64 0, .int .i64 n, .func (.func 212) #[] #[]] w fun e w' => e = .returned (.tuple #[]) ∧ w'.rowIs g 2 c (rowT (sortN (n - 1) zs) f) ∧ Touch g (g + 1) w w' := by
  have H := Lib.hid h
  have HZ := Lib.hid hz
  clear h hz
  go_enter Try.func296, Try.ntmps296
  go_wp2
  go_loopw [8] (fun i wr => ∃ k : Nat, k + 1 ≤ n ∧ i = .int .i64 ((k + 1 : Nat) : Int) ∧ wr.rowIs g 2 c (rowT (sortN k zs) f) ∧ Touch g (g + 1) w wr) (fun i _ => n - (intOf i).toNat)
  case atStart => exact ⟨0, hn1, rfl, H.out, Touch.refl _ _ _⟩
  case round =>
    obtain ⟨k, hk, rfl, hrow, ht⟩ := hrel
    have HR := Lib.hid hrow
    have HT := Lib.hid ht
    clear hrow ht
    by_cases hlt : k + 1 < n
    · obtain ⟨K, hK⟩ : ∃ K, k + 1 = K := ⟨_, rfl⟩
      rw [hK] at hlt ⊢
      have HK := Lib.hid hK
      have hlt' : (K : Int) < (n : Int) := by omega
      have hK1 : 1 ≤ K := by omega
      clear hK hk
      go_wp2
      go_loopw [9] (fun j wq => ∃ (J : Nat) (ys : List Int), J ≤ K ∧ j = .int .i64 J ∧ ys.length = n ∧ sink J ys = sink K (sortN k zs) ∧ wq.rowIs g 2 c (rowT ys f) ∧ Touch g (g + 1) w wq) (fun j _ => (intOf j).toNat)
      case atStart => exact ⟨K, sortN k zs, Nat.le_refl _, rfl, by rw [sortN_length]; exact HZ.out, rfl, HR.out, HT.out⟩
      case round =>
        obtain ⟨J, ys, hJK, rfl, hyl, hsk, hrow, ht⟩ := hrel
        have HYL := Lib.hid hyl
        have HSK := Lib.hid hsk
        have HRQ := Lib.hid hrow
        have HTQ := Lib.hid ht
        clear hyl hsk hrow ht
        by_cases hJ : J = 0
        · subst hJ
          have HRS := Lib.hid (show wr.rowIs g 2 c (rowT (sortN (k + 1) zs) f) by
            have h0 : sortN (k + 1) zs = ys := by
              show sink (k + 1) (sortN k zs) = ys
              rw [HK.out, ← HSK.out]; rfl
            rw [h0]; exact HRQ.out)
          go_wp2
          go_quiet (fail)
          go_wp2
          go_roundw
          case rel => exact ⟨k + 1, by have := HK.out; omega, by rw [show k + 1 = K from HK.out]; go_num, HRS.out, touchDrew HTQ.out _⟩
          case measure => simp [intOf]; omega
        · obtain ⟨i, hi⟩ : ∃ i, J = i + 1 := ⟨J - 1, by omega⟩
          have HI := Lib.hid hi
          obtain ⟨x, hx⟩ : ∃ x, ys[J]?.getD 0 = x := ⟨_, rfl⟩
          obtain ⟨y, hy⟩ : ∃ y, ys[i]?.getD 0 = y := ⟨_, rfl⟩
          have hJl : J < ys.length := by rw [HYL.out]; omega
          have hil : i < ys.length := by omega
          have c1 := HRQ.out.cell (i := J) (by rw [HYL.out] at hJl; omega)
          have c2 := HRQ.out.cell (i := i) (by rw [HYL.out] at hil; omega)
          rw [rowT_at hJl, hx] at c1
          rw [rowT_at hil, hy] at c2
          have f1 := HRQ.out.frozen J
          have f2 := HRQ.out.frozen i
          have e1 : IntKind.i64.wrap ((J : Int) - 1) = (i : Int) := by rw [hi, IntKind.wrap_i64]; omega
          have e2 : (J : Int) - 1 = (i : Int) := by omega
          have e3 : (0 : Int) < (J : Int) := by omega
          have e7 : decide (0 < J) = true := decide_eq_true (by omega)
          have e8 : 0 < J := by omega
          have e4 : (J : Int) < (n : Int) := by have := HYL.out; omega
          have e5 : (i : Int) < (n : Int) := by have := HYL.out; omega
          have e6 : (0 : Int) ≤ (i : Int) := by omega
          have ne1 : J ≠ i := by omega
          have ne2 : i ≠ J := by omega
          have HJL := Lib.hid hJl
          have HIL := Lib.hid hil
          have HX := Lib.hid hx
          have HY := Lib.hid hy
          obtain ⟨v, hv⟩ : ∃ v, cmpZ x y = v := ⟨_, rfl⟩
          have HV := Lib.hid hv
          by_cases hlt2 : x < y
          · have hv1 : v = -1 := by rw [← hv]; exact cmpZ_lt hlt2
            subst hv1
            have HS2 := Lib.hid (show sink i (swapL ys J i) = sink K (sortN k zs) by
              rw [← HSK.out, HI.out, sink_go (by rw [← HI.out, HX.out, HY.out]; exact hlt2)])
            have HRW := Lib.hid (swap_row HRQ.out HJL.out HIL.out HX.out HY.out)
            clear hi hx hy hJl hil hv hJ
            go_wp2
            go_quiet ((go_at_call 212; exact Calls.quiet_of_same (c_cmpCompare x y (-1) _ HV.out)))
            go_wp2
            go_region
            all_goals
              clear c1 c2 f1 f2
              go_wp2
              go_roundw
              case rel => exact ⟨i, swapL ys J i, by omega, by go_num, by rw [swapL_length]; exact HYL.out, HS2.out, HRW.out, touchOne (touchOne (HTQ.out.trans (Touch.of_ext (by (repeat (first | assumption | exact Ext.refl _ | (with_reducible refine Ext.stepS ?_ (by first | exact Nat.le_refl _ | (simp; done) | (simp; omega)) _) | (with_reducible refine Ext.stepN ?_ _) | (with_reducible refine Ext.stepD ?_) | (with_reducible refine Ext.stepA ?_ _)))) _ _)) _ _) _ _⟩
              case measure => simp [intOf]; omega
          · have hv0 : ¬ v < 0 := by
              rcases cmpZ_ge hlt2 with h | h
              · rw [← hv, h]; omega
              · rw [← hv, h]; omega
            have hv2 : decide (v < 0) = false := decide_eq_false hv0
            have HRS := Lib.hid (show wr.rowIs g 2 c (rowT (sortN (k + 1) zs) f) by
              have h0 : sortN (k + 1) zs = ys := by
                show sink (k + 1) (sortN k zs) = ys
                rw [HK.out, ← HSK.out, HI.out]; exact sink_end (by rw [← HI.out, HX.out, HY.out]; exact hlt2)
              rw [h0]; exact HRQ.out)
            clear hi hx hy hJl hil hv hJ hv0
            go_wp2
            go_quiet ((go_at_call 212; exact Calls.quiet_of_same (c_cmpCompare x y v _ HV.out)))
            go_wp2
            go_roundw
            case rel => exact ⟨k + 1, by have := HK.out; omega, by rw [show k + 1 = K from HK.out]; go_num, HRS.out, touchDrew HTQ.out _⟩
            case measure => simp [intOf]; omega
    · obtain rfl : n = k + 1 := by omega
      go_wp2
      first | go_end0 | (simp only [Exit.inBlock, Exit.then]; refine bodyPost_ret (results_none rfl _ _ _) rfl ?_) | refine bodyPost_ret (results_none rfl _ _ _) rfl ?_
      exact ⟨rfl, HR.out, HT.out⟩
end Go.Proofs.Ytfbapbgiegploaa
