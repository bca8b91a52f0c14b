/- x -/
import Derived.Test.YtfbapbgiegploaaSt3
import Derived.Deep.DeepCutAuto
import Derived.Deep.LoopGhost
import Derived.Deep.CutRange
namespace Go.Proofs.Ytfbapbgiegploaa
open Go.ChangeShapes Go.WideShapes Go.ChangeAt Go.RowKit Go.Proofs.Ytfbapbgiegploaa.Smg
set_option linter.unusedVariables false
set_option maxRecDepth 100000 in
set_option maxHeartbeats 4000000 in
theorem c_sym2K (le : Int → Int → Bool) (tr : ∀ x y z, le x y = true → le y z = true → le x z = true) (tot : ∀ x y, le x y = true ∨ le y x = true) (Q : Int → Prop) (qb : Nat) (b n c a m d : Nat) (g : Nat → Int × Nat) (f : Nat → Value) (w : World) (hn : n ≤ 1048576) (hc : n ≤ c) (h1 : a + 1 < m) (h2 : m + 1 = d) (h3 : d ≤ n) (hQ : ∀ k, a ≤ k → k < d → Q (g k).1) (htag : ∀ i j, a ≤ i → i < m → m ≤ j → j < d → (g i).2 < (g j).2) (hs1 : SortedOn (TL le) g a m)
    (hcmp : CmpOk Try.prog le Q 212 (fun x y => #[.int .i64 x, .int .i64 y]) b w) (h : w.rowIs b 2 c (rowG (Value.int .i64) n g f)) :
    Calls Try.prog 297 #[.slice (some ⟨b, 0, none⟩) n c, .int .i64 a, .int .i64 m, .int .i64 d, .func (.func 212) #[] #[]] w (RetG (Value.int .i64) 2 b c n f (fun g' => Shuf a d g g' ∧ SortedOn (TL le) g' a d) w) := by
  have H := Lib.hid h
  have HQ := Lib.hid hQ
  have HTAG := Lib.hid htag
  have HCM := Lib.hid hcmp
  have HS1 := Lib.hid hs1
  obtain ⟨D, hD⟩ : ∃ D, m - a = D := ⟨_, rfl⟩
  have e1 : (m : Int) - (a : Int) = (D : Int) := by omega
  have n1 : ¬ (D : Int) = 1 := by omega
  have n2 : ((D : Int) == 1) = false := by simpa using n1
  have hDb : D ≤ 1048576 := by omega
  have e2 : (d : Int) - (m : Int) = 1 := by omega
  have H2 := Lib.hid h2
  clear h hQ htag hcmp hs1 hD
  go_enter Try.func297, Try.ntmps297
  go_wp2
  clear e1 e2 n1 n2
  go_loopw [14, 15] (fun x y wr => ∃ i j : Nat, a ≤ i ∧ i ≤ j ∧ j ≤ m ∧ x = .int .i64 i ∧ y = .int .i64 j ∧ (a < i → TL le (g (i - 1)) (g m)) ∧ (j < m → TL le (g m) (g j)) ∧ wr.rowIs b 2 c (rowG (Value.int .i64) n g f) ∧ Touch b (b + 1) w wr) (fun x y _ => (intOf y).toNat - (intOf x).toNat)
  case atStart => exact ⟨a, m, Nat.le_refl _, by omega, Nat.le_refl _, rfl, rfl, fun h => by omega, fun h => by omega, H.out, Touch.refl _ _ _⟩
  case round =>
    obtain ⟨i, j, hmi, hij, hjd, rfl, rfl, hl, hr, hrow, ht⟩ := hrel
    have HR := Lib.hid hrow
    have HT := Lib.hid ht
    have HL := Lib.hid hl
    have HRR := Lib.hid hr
    clear hrow ht hl hr
    by_cases hlt : i < j
    · obtain ⟨q, hq⟩ : ∃ q, (i + j) / 2 = q := ⟨_, rfl⟩
      have hqi : ((i : Int) + (j : Int)) / 2 = (q : Int) := by omega
      have hq1 : i ≤ q := by omega
      have hq2 : q < j := by omega
      have hlt' : (i : Int) < (j : Int) := by omega
      have hqn : (q : Int) < (n : Int) := by omega
      have han : (m : Int) < (n : Int) := by omega
      obtain ⟨x, hx⟩ : ∃ x, (g m).1 = x := ⟨_, rfl⟩
      obtain ⟨y, hy⟩ : ∃ y, (g q).1 = y := ⟨_, rfl⟩
      have c1 := HR.out.cell (i := m) (by omega)
      have c2 := HR.out.cell (i := q) (by omega)
      rw [rowG_at (by omega), hx] at c1
      rw [rowG_at (by omega), hy] at c2
      have HX := Lib.hid (show Q x by rw [← hx]; exact HQ.out m (by omega) (by omega))
      have HY := Lib.hid (show Q y by rw [← hy]; exact HQ.out q (by omega) (by omega))
      cases hle : le y x
      · have HV := Lib.hid (show cmpG le x y = -1 from cmpG_lt hle)
        have HN := Lib.hid (show TL le (g m) (g q) from TL.of_lt tot (by rw [hx, hy]; exact hle))
        clear hq hx hy hle
        go_wp2
        go_quiet ((go_at_call 212; exact Calls.quiet_of (HCM.out _ (touchN HT.out _) x y (-1) HX.out HY.out HV.out)))
        go_wp2
        go_roundw
        case rel => exact ⟨i, q, hmi, by omega, by omega, rfl, rfl, HL.out, fun _ => HN.out, by first | exact HR.out | exact rowD HR.out _, by first | exact HT.out | exact touchN HT.out _⟩
        case measure => simp [intOf]; omega
      · obtain ⟨v, hv⟩ : ∃ v, cmpG le x y = v := ⟨_, rfl⟩
        have hv0 : 0 ≤ v := by rw [← hv]; exact cmpG_ge hle
        have hv1 : ¬ v < 0 := by omega
        have hv2 : decide (v < 0) = false := decide_eq_false (by omega)
        have HV := Lib.hid hv
        have HN := Lib.hid (show TL le (g q) (g m) from TL.of_tag (by rw [hx, hy]; exact hle) (HTAG.out q m (by omega) (by omega) (Nat.le_refl _) (by omega)))
        clear hq hx hy hle hv
        go_wp2
        go_quiet ((go_at_call 212; exact Calls.quiet_of (HCM.out _ (touchN HT.out _) x y v HX.out HY.out HV.out)))
        go_wp2
        go_roundw
        case rel => exact ⟨q + 1, j, by omega, by omega, hjd, by go_num, rfl, fun _ => by rw [show q + 1 - 1 = q by omega]; exact HN.out, HRR.out, by first | exact HR.out | exact rowD HR.out _, by first | exact HT.out | exact touchN HT.out _⟩
        case measure => simp [intOf]; omega
    · obtain rfl : i = j := by omega
      go_wp2
      go_loopw [17] (fun x wq => ∃ k : Nat, i ≤ k ∧ k ≤ m ∧ x = .int .i64 k ∧ wq.rowIs b 2 c (rowG (Value.int .i64) n (rotF g k m (m + 1)) f) ∧ Touch b (b + 1) w wq) (fun x _ => (intOf x).toNat)
      case atStart => exact ⟨m, by omega, Nat.le_refl _, rfl, by rw [rot_none_l]; exact HR.out, HT.out⟩
      case round =>
        obtain ⟨k, hk1, hk2, rfl, hrow, ht⟩ := hrel
        have HRQ := Lib.hid hrow
        have HTQ := Lib.hid ht
        clear hrow ht
        by_cases hkl : i < k
        · have e3 : (i : Int) < (k : Int) := by omega
          obtain ⟨k1, hk⟩ : ∃ k1, k = k1 + 1 := ⟨k - 1, by omega⟩
          have e4 : (k : Int) - 1 = (k1 : Int) := by omega
          obtain ⟨x, hx⟩ : ∃ x, (rotF g k m (m + 1) k).1 = x := ⟨_, rfl⟩
          obtain ⟨y, hy⟩ : ∃ y, (rotF g k m (m + 1) k1).1 = y := ⟨_, rfl⟩
          have c1 := HRQ.out.cell (i := k) (by omega)
          have c2 := HRQ.out.cell (i := k1) (by omega)
          rw [rowG_at (by omega), hx] at c1
          rw [rowG_at (by omega), hy] at c2
          have f1 := HRQ.out.frozen k
          have f2 := HRQ.out.frozen k1
          have e5 : (k : Int) < (n : Int) := by omega
          have e6 : (k1 : Int) < (n : Int) := by omega
          have ne1 : k ≠ k1 := by omega
          have ne2 : k1 ≠ k := by omega
          have HRW := Lib.hid (rowG_swap HRQ.out (i := k) (j := k1) (by omega) (by omega) hx hy ne1)
          have HRE := Lib.hid (show swapF (rotF g k m (m + 1)) k k1 = rotF g k1 m (m + 1) by have := rot_down g k m (by omega) hk2; rwa [show k - 1 = k1 by omega] at this)
          have HK := Lib.hid hk
          clear hx hy hk
          go_wp2
          go_region
          all_goals
            clear c1 c2 f1 f2
            go_wp2
            go_roundw
            case rel => exact ⟨k1, by have := HK.out; omega, by have := HK.out; omega, by first | rfl | go_num, by rw [← HRE.out]; first | exact HRW.out | exact rowD HRW.out _, by first | exact touch1 (touch1 HTQ.out _ _) _ _ | exact touchN (touch1 (touch1 HTQ.out _ _) _ _) _⟩
            case measure => have := HK.out; simp [intOf]; omega
        · obtain rfl : i = k := by omega
          have hd2 := H2.out
          have HF := Lib.hid (show SortedOn (TL le) (rotF g i m (m + 1)) a d from by rw [← H2.out]; exact down_sorted (TL.trans tr) HS1.out hmi hk2 (fun h => HL.out h) (fun h => HRR.out h))
          have HF2 := Lib.hid (show Shuf a d g (rotF g i m (m + 1)) from by have := rot_down_shuf g m (lo := a) (hi := d) (by omega) (m - i) (by omega) (by omega); rwa [show m - (m - i) = i by omega] at this)
          go_wp2
          first | go_end0 | (simp only [Exit.inBlock, Exit.then]; refine bodyPost_ret (results_none rfl _ _ _) rfl ?_) | refine bodyPost_ret (results_none rfl _ _ _) rfl ?_
          exact ⟨_, rfl, HRQ.out, ⟨HF2.out, HF.out⟩, HTQ.out⟩
end Go.Proofs.Ytfbapbgiegploaa
