/- l06Sorted: a copy is put in order by swaps. -/
import Derived.Test.YtplngjbllllanaaCnt
import Derived.Test.YtplngjbllllanaaMed
namespace Go.Proofs.Ytplngjbllllanaa
open Go.ChangeShapes Go.WideShapes Go.ChangeAt Go.RowKit
set_option linter.unusedVariables false
theorem swapL_perm {zs : List Int} {i j : Nat} (hi : i < zs.length) (hj : j < zs.length) : (swapL zs i j).Perm zs := by
  unfold swapL
  rw [List.getElem?_eq_getElem hi, List.getElem?_eq_getElem hj]
  exact List.set_set_perm hi hj
theorem swapL_get {zs : List Int} {i j k : Nat} (hi : i < zs.length) (hj : j < zs.length) : getI (swapL zs i j) k = if k = j then getI zs i else if k = i then getI zs j else getI zs k := by
  unfold swapL
  rw [getI_set _ _ _ _ (by rw [List.length_set]; exact hj), getI_set _ _ _ _ hi]; rfl
/-- the first m in order, but for the one at j, which lies below those behind it -/
structure Nearly (m j : Nat) (L : List Int) : Prop where
  o : ∀ a b, a < b → b < m → a ≠ j → b ≠ j → getI L a ≤ getI L b
  b : ∀ b, j < b → b < m → getI L j ≤ getI L b
def InOrder (m : Nat) (L : List Int) : Prop := ∀ a b, a < b → b < m → getI L a ≤ getI L b
theorem nearly_end {m j : Nat} {L : List Int} (h : Nearly m j L) (hj : j = 0 ∨ ∃ i, j = i + 1 ∧ getI L i ≤ getI L j) : InOrder m L := by
  intro a b hab hb
  by_cases e1 : a = j
  · subst e1; exact h.b b hab hb
  by_cases e2 : b = j
  · subst e2
    rcases hj with rfl | ⟨i, rfl, hi⟩
    · omega
    · by_cases e3 : a = i
      · subst e3; exact hi
      · exact Int.le_trans (h.o a i (by omega) (by omega) (by omega) (by omega)) hi
  · exact h.o a b hab hb e1 e2
theorem nearly_step {m j : Nat} {L : List Int} (h : Nearly m (j + 1) L) (hl : m ≤ L.length) (hj : j + 1 < m) (hlt : getI L (j + 1) < getI L j) : Nearly m j (swapL L (j + 1) j) := by
  have g := fun k => swapL_get (zs := L) (i := j + 1) (j := j) (k := k) (by omega) (by omega)
  refine ⟨fun a b hab hb ha1 hb1 => ?_, fun b hb hbm => ?_⟩
  · rw [g, g, if_neg ha1, if_neg hb1]
    by_cases e1 : a = j + 1
    · rw [if_pos e1, if_neg (by omega)]; exact h.o j b (by omega) hb (by omega) (by omega)
    · rw [if_neg e1]
      by_cases e2 : b = j + 1
      · rw [if_pos e2]; exact h.o a j (by omega) (by omega) e1 (by omega)
      · rw [if_neg e2]; exact h.o a b hab hb e1 e2
  · rw [g, g, if_pos rfl, if_neg (by omega)]
    by_cases e : b = j + 1
    · rw [if_pos e]; omega
    · rw [if_neg e]; exact h.b b (by omega) hbm
theorem sink_order {m : Nat} : ∀ (j : Nat) (L : List Int), Nearly m j L → m ≤ L.length → j < m → InOrder m (sink j L) ∧ (sink j L).Perm L
  | 0, L, h, _, _ => ⟨nearly_end h (.inl rfl), List.Perm.refl _⟩
  | j + 1, L, h, hl, hj => by
    by_cases hlt : getI L (j + 1) < getI L j
    · rw [sink_go hlt]
      have h1 := sink_order j (swapL L (j + 1) j) (nearly_step h hl hj hlt) (by rw [swapL_length]; exact hl) (by omega)
      exact ⟨h1.1, h1.2.trans (swapL_perm (by omega) (by omega))⟩
    · rw [sink_end hlt]
      exact ⟨nearly_end h (.inr ⟨j, rfl, by omega⟩), List.Perm.refl _⟩
theorem sortN_order (zs : List Int) : ∀ k, k < zs.length → InOrder (k + 1) (sortN k zs) ∧ (sortN k zs).Perm zs
  | 0, _ => ⟨fun a b h1 h2 => by omega, List.Perm.refl _⟩
  | k + 1, hk => by
    obtain ⟨h1, h2⟩ := sortN_order zs k (by omega)
    have h3 := sink_order (m := k + 2) (k + 1) (sortN k zs) ⟨fun a b hab hb ha hb' => h1 a b hab (by omega), fun b hb hbm => by omega⟩ (by rw [sortN_length]; omega) (by omega)
    exact ⟨h3.1, h3.2.trans h2⟩
theorem sortN_sortZ {zs : List Int} {n : Nat} (hn : zs.length = n) (h1 : 1 ≤ n) : sortN (n - 1) zs = sortZ zs := by
  obtain ⟨h2, h3⟩ := sortN_order zs (n - 1) (by omega)
  refine List.Perm.eq_of_pairwise (le := fun a b => a ≤ b) (fun a b _ _ h4 h5 => by omega) ?_ (sortZ_asc zs) (h3.trans (List.mergeSort_perm zs _).symm)
  rw [List.pairwise_iff_getElem]
  intro i j hi hj hij
  have := h2 i j hij (by rw [sortN_length] at hj; omega)
  unfold getI at this
  rwa [List.getElem?_eq_getElem hi, List.getElem?_eq_getElem hj] at this
set_option maxHeartbeats 1000000 in
theorem c_spec_l06Sorted (a : Option Addr) (n cap : Nat) (zs : List Int) (w : World) (hn1 : 1 ≤ n) (hn : n ≤ 1000) (h : Reads w a n (ints zs)) :
    Calls Try.prog 88 #[.slice a n cap] w (RetS 2 n (ints (sortZ zs)) w) := by
  obtain ⟨i0, hi, hz0, hz1, hz2⟩ := info_parts info_i64
  have hz := h.int.1
  rw [← sortN_sortZ hz hn1]
  obtain ⟨ab, ao, rfl⟩ : ∃ b off, a = some ⟨b, off, none⟩ := by
    rcases h.2 with h0 | ⟨b', off', rfl, _⟩
    · omega
    · exact ⟨_, _, rfl⟩
  have HZ := Lib.hid hz
  have H := Lib.hid h
  have hnI : (n : Int) ≤ 1000 := by omega
  clear h hz
  go_enter Try.func88, Try.ntmps88
  go_wp2_with (at_builtin; refine wpList_append_spread (w0 := w) rfl _ _ 40 rfl 2 i0 (.int .i64 0) Try.underlying40 hi hz0 hz1 hz2 rfl _ 0 [] rfl ((Ext.refl w).stepA _) (World.ownsRow_made w #[] 0 (Nat.le_refl _) (Nat.zero_le _) rfl) (some ⟨ab, ao, none⟩) n cap zs rfl (fun h => by cases h) (H.out.on ((Ext.refl w).stepA _)) (by omega) ?_; intro v' w1 o1 x1; rw [Nat.zero_add, List.nil_append] at o1; obtain ⟨a', c', rfl, ho'⟩ := Own.of_row (e := 0) o1; obtain ⟨g, f, rfl, g1, g2, g3, g4, g5⟩ := ho'.rowT (by omega); have HX := Lib.hid x1; have HG := Lib.hid g1; have HR0 := Lib.hid g5; have HCC := Lib.hid g4; clear x1 o1 ho' g1 g2 g3 g4 g5)
  go_loopw [4] (fun i wr => ∃ k : Nat, 1 ≤ k ∧ k ≤ n ∧ i = .int .i64 k ∧ wr.rowIs g 2 c' (rowT (sortN (k - 1) zs) f) ∧ Touch g (g + 1) w1 wr) (fun i _ => n - (intOf i).toNat)
  case atStart => exact ⟨1, Nat.le_refl _, hn1, rfl, HR0.out, Touch.refl _ _ _⟩
  case round =>
    obtain ⟨K, hk1, hk, rfl, hrow, ht⟩ := hrel
    have HR := Lib.hid hrow
    have HT := Lib.hid ht
    clear hrow ht
    by_cases hlt : K < n
    · have hltI : (K : Int) < (n : Int) := by omega
      go_wp2
      go_loopw [5] (fun j wq => ∃ (J : Nat) (ys : List Int), J ≤ K ∧ j = .int .i64 J ∧ ys.length = n ∧ sink J ys = sink K (sortN (K - 1) zs) ∧ wq.rowIs g 2 c' (rowT ys f) ∧ Touch g (g + 1) w1 wq) (fun j _ => (intOf j).toNat)
      case atStart => exact ⟨K, sortN (K - 1) zs, Nat.le_refl _, rfl, by rw [sortN_length]; exact HZ.out, rfl, HR.out, HT.out⟩
      case round =>
        obtain ⟨J, ys, hJK, rfl, hyl, hsk, hrow, ht⟩ := hrel
        have HYL := Lib.hid hyl
        have HSK := Lib.hid (show sink J ys = sortN K zs by
          rw [hsk]
          cases K with
          | zero => rfl
          | succ k => rfl)
        have HSK2 := Lib.hid hsk
        have HRQ := Lib.hid hrow
        have HTQ := Lib.hid ht
        clear hyl hsk hrow ht
        by_cases hJ : J = 0
        · subst hJ
          have HRS := Lib.hid (show wr.rowIs g 2 c' (rowT (sortN (K + 1 - 1) zs) f) by
            have h0 : sortN K zs = ys := by rw [← HSK.out]; rfl
            rw [Nat.add_sub_cancel, h0]; exact HRQ.out)
          go_wp2
          go_quiet (fail)
          go_wp2
          go_roundw
          case rel => exact ⟨K + 1, by omega, by omega, by go_num, HRS.out, touchDrew HTQ.out _⟩
          case measure => simp [intOf]; omega
        · obtain ⟨i, hi⟩ : ∃ i, J = i + 1 := ⟨J - 1, by omega⟩
          have HI := Lib.hid hi
          obtain ⟨x, hx⟩ : ∃ x, ys[J]?.getD 0 = x := ⟨_, rfl⟩
          obtain ⟨y, hy⟩ : ∃ y, ys[i]?.getD 0 = y := ⟨_, rfl⟩
          have hJl : J < ys.length := by rw [HYL.out]; omega
          have hil : i < ys.length := by omega
          have c1 := HRQ.out.cell (i := J) (by have := HCC.out; rw [HYL.out] at hJl; omega)
          have c2 := HRQ.out.cell (i := i) (by have := HCC.out; rw [HYL.out] at hil; omega)
          rw [rowT_at hJl, hx] at c1
          rw [rowT_at hil, hy] at c2
          have f1 := HRQ.out.frozen J
          have f2 := HRQ.out.frozen i
          have e5 : IntKind.i64.wrap ((J : Int) - 1) = (i : Int) := by rw [hi, IntKind.wrap_i64]; omega
          have e6 : (J : Int) - 1 = (i : Int) := by omega
          have e7 : (0 : Int) < (J : Int) := by omega
          have e8 : decide (0 < J) = true := decide_eq_true (by omega)
          have e9 : 0 < J := by omega
          have e10 : (J : Int) < (n : Int) := by have := HYL.out; omega
          have e11 : (i : Int) < (n : Int) := by have := HYL.out; omega
          have e12 : (0 : Int) ≤ (i : Int) := by omega
          have ne1 : J ≠ i := by omega
          have ne2 : i ≠ J := by omega
          have HJL := Lib.hid hJl
          have HIL := Lib.hid hil
          have HXX := Lib.hid hx
          have HYY := Lib.hid hy
          by_cases hlt2 : x < y
          · have hd : decide (x < y) = true := decide_eq_true hlt2
            have HS2 := Lib.hid (show sink i (swapL ys J i) = sink K (sortN (K - 1) zs) by
              rw [← HSK2.out, HI.out, sink_go (by rw [← HI.out, HXX.out, HYY.out]; exact hlt2)])
            have HRW := Lib.hid (swap_row HRQ.out HJL.out HIL.out HXX.out HYY.out)
            clear hi hx hy hJl hil hJ
            go_wp2
            go_quiet (fail)
            go_wp2
            go_roundw
            case rel => exact ⟨i, swapL ys J i, by omega, by go_num, by rw [swapL_length]; exact HYL.out, HS2.out, HRW.out, touchOne (touchOne (touchDrew HTQ.out _) _ _) _ _⟩
            case measure => simp [intOf]; omega
          · have hd : decide (x < y) = false := decide_eq_false hlt2
            have HRS := Lib.hid (show wr.rowIs g 2 c' (rowT (sortN (K + 1 - 1) zs) f) by
              have h0 : sortN K zs = ys := by rw [← HSK.out, HI.out]; exact sink_end (by rw [← HI.out, HXX.out, HYY.out]; exact hlt2)
              rw [Nat.add_sub_cancel, h0]; exact HRQ.out)
            clear hi hx hy hJl hil hJ
            go_wp2
            go_quiet (fail)
            go_wp2
            go_roundw
            case rel => exact ⟨K + 1, by omega, by omega, by go_num, HRS.out, touchDrew HTQ.out _⟩
            case measure => simp [intOf]; omega
    · obtain rfl : n = K := by omega
      have hO := Lib.hid (own_rowT (by rw [sortN_length, HZ.out]; exact HCC.out) HG.out HR.out)
      go_wp2
      go_ret
      exact ⟨_, _, rfl, by have h := hO.out; rw [sortN_length, HZ.out] at h; exact h, Touch.ext HX.out HT.out HG.out⟩
end Go.Proofs.Ytplngjbllllanaa
