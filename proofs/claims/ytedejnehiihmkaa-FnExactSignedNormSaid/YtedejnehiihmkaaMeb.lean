/- The median of a few numbers, on both sides. -/
import Derived.Test.YtedejnehiihmkaaMed
import Derived.Test.YtedejnehiihmkaaPlb
namespace Go.Proofs.Ytedejnehiihmkaa
open Go.ChangeShapes Go.WideShapes Go.ChangeAt Go.RowKit
set_option linter.unusedVariables false
set_option maxHeartbeats 2000000 in
theorem c_stable (g n c : Nat) (zs : List Int) (f : Nat → Value) (w : World) (hn1 : 1 ≤ n) (hn : n ≤ 19) (hz : zs.length = n) (hc : n ≤ c) (h : w.rowIs g 2 c (rowT zs f)) :
    Calls Try.prog 92 #[.slice (some ⟨g, 0, none⟩) n c, .int .i64 n, .func (.func 79) #[] #[]] w fun e w' => e = .returned (.tuple #[]) ∧ w'.rowIs g 2 c (rowT (sortN (n - 1) zs) f) ∧ Touch g (g + 1) w w' := by
  have H := Lib.hid h
  have HZ := Lib.hid hz
  have hn' : (n : Int) ≤ 19 := by omega
  have hn2 : (n : Int) < 20 := by omega
  have d1 : ((20 : Int) ≤ (n : Int)) = False := by simp; omega
  clear h hz
  go_enter Try.func92, Try.ntmps92
  go_wp2
  go_loop [7, 8] (fun x y => x = .int .i64 0 ∧ y = .int .i64 20) (fun _ _ => 0)
  case atStart => exact ⟨rfl, rfl⟩
  case round =>
    obtain ⟨rfl, rfl⟩ := hrel
    go_wp2_with fail
    refine (c_insertionSort g n c zs f _ hn1 (by omega) HZ.out hc H.out).mono ?_; rintro e wa ⟨rfl, hr, ht⟩
    have HR := Lib.hid hr
    have HT := Lib.hid ht
    clear hr ht
    go_wp2
    go_loop [6] (fun x => x = .int .i64 20) (fun _ => 0)
    case atStart => rfl
    case round =>
      subst hrel
      go_wp2
      first | go_end0 | (simp only [Exit.inBlock, Exit.then]; refine bodyPost_ret (results_none rfl _ _ _) rfl ?_) | refine bodyPost_ret (results_none rfl _ _ _) rfl ?_
      exact ⟨rfl, HR.out, HT.out⟩
theorem c_SortStable (g n c : Nat) (zs : List Int) (f : Nat → Value) (w : World) (hn1 : 1 ≤ n) (hn : n ≤ 19) (hz : zs.length = n) (hc : n ≤ c) (h : w.rowIs g 2 c (rowT zs f)) :
    Calls Try.prog 78 #[.slice (some ⟨g, 0, none⟩) n c, .func (.func 79) #[] #[]] w fun e w' => e = .returned (.tuple #[]) ∧ w'.rowIs g 2 c (rowT (sortN (n - 1) zs) f) ∧ Touch g (g + 1) w w' := by
  have H := Lib.hid h
  have HZ := Lib.hid hz
  clear h hz
  go_enter Try.func78, Try.ntmps78
  go_wp2_with fail
  refine (c_stable g n c zs f _ hn1 hn HZ.out hc H.out).mono ?_; rintro e wa ⟨rfl, hr, ht⟩
  have HR := Lib.hid hr
  have HT := Lib.hid ht
  clear hr ht
  go_wp2
  first | go_end0 | (simp only [Exit.inBlock, Exit.then]; refine bodyPost_ret (results_none rfl _ _ _) rfl ?_) | refine bodyPost_ret (results_none rfl _ _ _) rfl ?_
  exact ⟨rfl, HR.out, HT.out⟩
set_option maxHeartbeats 1000000 in
theorem c_medianOf (g n c : Nat) (zs : List Int) (f : Nat → Value) (w : World) (hn1 : 1 ≤ n) (hn : n ≤ 19) (hz : zs.length = n) (hc : n ≤ c) (h : w.rowIs g 2 c (rowT zs f)) :
    Calls Try.prog 45 #[.slice (some ⟨g, 0, none⟩) n c] w fun e w' => e = .returned (.int .i64 (medZ zs)) ∧ Touch g (g + 1) w w' := by
  have H := Lib.hid h
  have HZ := Lib.hid hz
  obtain ⟨q, hq⟩ : ∃ q, (n - 1) / 2 = q := ⟨_, rfl⟩
  have hql : q < n := by omega
  have e1 : ((n : Int) - 1) / 2 = (q : Int) := by omega
  have e1' : ((n : Int) - 1).tdiv 2 = (q : Int) := by rw [Int.tdiv_eq_ediv_of_nonneg (by omega)]; omega
  have e2 : (q : Int) < (n : Int) := by omega
  have e3 : (0 : Int) ≤ (q : Int) := by omega
  have e4 : (1 : Int) ≤ (n : Int) := by omega
  have HM := Lib.hid (show (sortN (n - 1) zs)[q]?.getD 0 = medZ zs by unfold medZ; rw [hz, hq])
  clear h hz hq
  go_enter Try.func45, Try.ntmps45
  go_wp2_with fail
  refine (c_SortStable g n c zs f _ hn1 hn HZ.out hc H.out).mono ?_; rintro e wa ⟨rfl, hr, ht⟩
  have hcell := hr.cell (i := q) (by omega)
  rw [rowT_at (by rw [sortN_length, HZ.out]; exact hql), HM.out] at hcell
  have HT := Lib.hid ht
  clear hr ht
  go_wp2
  go_ret
  exact ⟨rfl, HT.out⟩
theorem sortN_snoc (k : Nat) (zs : List Int) : sink (k + 1) (sortN k zs) = sortN (k + 1) zs := rfl
set_option maxHeartbeats 4000000 in
theorem c_spec_l03Middle (a : Option Addr) (n cap : Nat) (zs : List Int) (w : World) (hn1 : 1 ≤ n) (hn : n ≤ 1000) (h : Reads w a n (ints zs)) :
    Calls Try.prog 42 #[.slice a n cap] w fun e w' => e = .returned (.int .i64 (medZ zs)) ∧ Ext w w' := by
  obtain ⟨i0, hi, hz0, hz1, hz2⟩ := info_parts info_i64
  have hz := h.int.1
  obtain ⟨ab, ao, rfl⟩ : ∃ b off, a = some ⟨b, off, none⟩ := by
    rcases h.2 with h0 | ⟨b', off', rfl, _⟩
    · omega
    · exact ⟨_, _, rfl⟩
  have HZ := Lib.hid hz
  have HC := Lib.hid (show ∀ i, i < n → w.cell? ⟨ab, ao + i, none⟩ = (ints zs)[i]? from by
    rcases h.2 with h0 | ⟨b', off', he, hc⟩
    · omega
    · cases he; exact hc)
  obtain ⟨q, hq⟩ : ∃ q, (n - 1) / 2 = q := ⟨_, rfl⟩
  have hql : q < n := by omega
  have e1 : ((n : Int) - 1) / 2 = (q : Int) := by omega
  have e2 : (q : Int) < (n : Int) := by omega
  have e3 : (0 : Int) ≤ (q : Int) := by omega
  have e4 : (1 : Int) ≤ (n : Int) := by omega
  have HM := Lib.hid (show (sortN (n - 1) zs)[q]?.getD 0 = medZ zs by unfold medZ; rw [hz, hq])
  clear h hz hq
  go_enter Try.func42, Try.ntmps42
  go_wp2_with (at_builtin; refine wpList_append_own _ rfl _ _ 22 rfl w.heap.size 2 i0 (.int .i64 0) 1 8 Try.underlying22 hi hz0 hz1 hz2 rfl (by decide) _ _ _ rfl (World.ownsRow_made w #[] 0 (Nat.le_refl _) (Nat.zero_le _) rfl) ⟨ab, ao, none⟩ n cap (ints zs) rfl ?qc1 ?qc2 ?qc3 ?qc4 ?qc5 ?qc6 ?_)
  case qc1 => rw [ints_length, HZ.out]; simp
  case qc2 =>
    intro j u hj
    have hjn : j < n := by
      have := (List.getElem?_eq_some_iff.1 hj).1
      rw [ints_length, HZ.out] at this
      exact this
    rw [Addr.add_lit]
    refine Lib.cell?_alloc_some _ ?_
    rw [HC.out j hjn]
    exact hj
  case qc3 => intro u hu; obtain ⟨x, _, rfl⟩ := List.mem_map.1 hu; rfl
  case qc4 => unfold maxLen; omega
  case qc5 => omega
  case qc6 => simp
  intro v' w1 hown hgrow hnil
  have hx : Ext w w1 := ((Below.refl _ w).alloc (Nat.le_refl _) _).grown hgrow (by simp) (by intro k hk; simp [Value.ownBlock] at hk; omega)
  obtain ⟨a', c', rfl, ho'⟩ := Own.of_row (e := 0) hown
  try simp only [Nat.zero_add, List.nil_append] at ho'
  obtain ⟨g, f, rfl, g1, g2, g3, g4, g5⟩ := ho'.rowT (by omega)
  have HX := Lib.hid hx
  have HG := Lib.hid g1
  have HR0 := Lib.hid g5
  have HCC := Lib.hid g4
  clear hx hown hgrow hnil ho' g1 g2 g3 g4 g5
  go_wp2
  go_loopw [12] (fun i wr => ∃ k : Nat, k ≤ n ∧ i = .int .i64 k ∧ wr.rowIs g 2 c' (rowT (sortN (k - 1) zs) f) ∧ Touch g (g + 1) w1 wr) (fun i _ => n - (intOf i).toNat)
  case atStart => exact ⟨0, Nat.zero_le _, rfl, HR0.out, Touch.refl _ _ _⟩
  case round =>
    obtain ⟨K, hk, rfl, hrow, ht⟩ := hrel
    have HR := Lib.hid hrow
    have HT := Lib.hid ht
    clear hrow ht
    by_cases hlt : K < n
    · go_wp2
      go_loopw [5] (fun j wq => ∃ (J : Nat) (ys : List Int), J ≤ K ∧ j = .int .i64 J ∧ ys.length = n ∧ sink J ys = sink K (sortN (K - 1) zs) ∧ wq.rowIs g 2 c' (rowT ys f) ∧ Touch g (g + 1) w1 wq) (fun j _ => (intOf j).toNat)
      case atStart => exact ⟨K, sortN (K - 1) zs, Nat.le_refl _, rfl, by rw [sortN_length]; exact HZ.out, rfl, HR.out, HT.out⟩
      case round =>
        obtain ⟨J, ys, hJK, rfl, hyl, hsk, hrow, ht⟩ := hrel
        have HYL := Lib.hid hyl
        have HSK := Lib.hid (show sink J ys = sortN K zs by
          rw [hsk]
          cases K with
          | zero => rfl
          | succ k => rfl)
        have HSK2 := Lib.hid hsk
        have HRQ := Lib.hid hrow
        have HTQ := Lib.hid ht
        clear hyl hsk hrow ht
        by_cases hJ : J = 0
        · subst hJ
          have HRS := Lib.hid (show wr.rowIs g 2 c' (rowT (sortN (K + 1 - 1) zs) f) by
            have h0 : sortN K zs = ys := by rw [← HSK.out]; rfl
            rw [Nat.add_sub_cancel, h0]; exact HRQ.out)
          go_wp2
          go_quiet (fail)
          go_wp2
          go_roundw
          case rel => exact ⟨K + 1, by omega, by go_num, HRS.out, touchDrew HTQ.out _⟩
          case measure => simp [intOf]; omega
        · obtain ⟨i, hi⟩ : ∃ i, J = i + 1 := ⟨J - 1, by omega⟩
          have HI := Lib.hid hi
          obtain ⟨x, hx⟩ : ∃ x, ys[J]?.getD 0 = x := ⟨_, rfl⟩
          obtain ⟨y, hy⟩ : ∃ y, ys[i]?.getD 0 = y := ⟨_, rfl⟩
          have hJl : J < ys.length := by rw [HYL.out]; omega
          have hil : i < ys.length := by omega
          have c1 := HRQ.out.cell (i := J) (by have := HCC.out; rw [HYL.out] at hJl; omega)
          have c2 := HRQ.out.cell (i := i) (by have := HCC.out; rw [HYL.out] at hil; omega)
          rw [rowT_at hJl, hx] at c1
          rw [rowT_at hil, hy] at c2
          have f1 := HRQ.out.frozen J
          have f2 := HRQ.out.frozen i
          have e5 : IntKind.i64.wrap ((J : Int) - 1) = (i : Int) := by rw [hi, IntKind.wrap_i64]; omega
          have e6 : (J : Int) - 1 = (i : Int) := by omega
          have e7 : (0 : Int) < (J : Int) := by omega
          have e8 : decide (0 < J) = true := decide_eq_true (by omega)
          have e9 : 0 < J := by omega
          have e10 : (J : Int) < (n : Int) := by have := HYL.out; omega
          have e11 : (i : Int) < (n : Int) := by have := HYL.out; omega
          have e12 : (0 : Int) ≤ (i : Int) := by omega
          have ne1 : J ≠ i := by omega
          have ne2 : i ≠ J := by omega
          have HJL := Lib.hid hJl
          have HIL := Lib.hid hil
          have HXX := Lib.hid hx
          have HYY := Lib.hid hy
          by_cases hlt2 : x < y
          · have hd : decide (x < y) = true := decide_eq_true hlt2
            have HS2 := Lib.hid (show sink i (swapL ys J i) = sink K (sortN (K - 1) zs) by
              rw [← HSK2.out, HI.out, sink_go (by rw [← HI.out, HXX.out, HYY.out]; exact hlt2)])
            have HRW := Lib.hid (swap_row HRQ.out HJL.out HIL.out HXX.out HYY.out)
            clear hi hx hy hJl hil hJ
            go_wp2
            go_quiet (fail)
            clear e1
            go_wp2
            go_roundw
            case rel => exact ⟨i, swapL ys J i, by omega, by go_num, by rw [swapL_length]; exact HYL.out, HS2.out, HRW.out, touchOne (touchOne (touchDrew HTQ.out _) _ _) _ _⟩
            case measure => simp [intOf]; omega
          · have hd : decide (x < y) = false := decide_eq_false hlt2
            have HRS := Lib.hid (show wr.rowIs g 2 c' (rowT (sortN (K + 1 - 1) zs) f) by
              have h0 : sortN K zs = ys := by rw [← HSK.out, HI.out]; exact sink_end (by rw [← HI.out, HXX.out, HYY.out]; exact hlt2)
              rw [Nat.add_sub_cancel, h0]; exact HRQ.out)
            clear hi hx hy hJl hil hJ
            go_wp2
            go_quiet (fail)
            go_wp2
            go_roundw
            case rel => exact ⟨K + 1, by omega, by go_num, HRS.out, touchDrew HTQ.out _⟩
            case measure => simp [intOf]; omega
    · obtain rfl : n = K := by omega
      have hcell := HR.out.cell (i := q) (by have := HCC.out; omega)
      rw [rowT_at (by rw [sortN_length, HZ.out]; exact hql), HM.out] at hcell
      go_wp2
      go_ret
      exact ⟨rfl, Touch.ext HX.out HT.out HG.out⟩
end Go.Proofs.Ytedejnehiihmkaa
