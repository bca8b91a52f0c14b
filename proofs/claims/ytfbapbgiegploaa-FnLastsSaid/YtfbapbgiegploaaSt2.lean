/- x -/
import Derived.Test.YtfbapbgiegploaaSt1
namespace Go.Proofs.Ytfbapbgiegploaa
open Go.ChangeShapes Go.WideShapes Go.ChangeAt Go.RowKit Go.Proofs.Ytfbapbgiegploaa.Smg
set_option linter.unusedVariables false
set_option maxHeartbeats 4000000 in
theorem c_rotK (b n c a m d : Nat) (g : Nat → Int × Nat) (f : Nat → Value) (cb : Array Value) (w : World) (hn : n ≤ 1048576) (hc : n ≤ c) (h1 : a < m) (h2 : m < d) (h3 : d ≤ n) (h : w.rowIs b 2 c (rowG (Value.int .i64) n g f)) :
    Calls Try.prog 318 #[.slice (some ⟨b, 0, none⟩) n c, .int .i64 a, .int .i64 m, .int .i64 d, .func (.func 212) #[] cb] w (RetG (Value.int .i64) 2 b c n f (fun g' => g' = rotF g a m d ∧ Shuf a d g g') w) := by
  have H := Lib.hid h
  obtain ⟨I0, hI0⟩ : ∃ I0, m - a = I0 := ⟨_, rfl⟩
  obtain ⟨J0, hJ0⟩ : ∃ J0, d - m = J0 := ⟨_, rfl⟩
  have e1 : (m : Int) - (a : Int) = (I0 : Int) := by omega
  have e2 : (d : Int) - (m : Int) = (J0 : Int) := by omega
  have e1w : IntKind.i64.wrap ((m : Int) - (a : Int)) = (I0 : Int) := by rw [e1, IntKind.wrap_i64]; omega
  have e2w : IntKind.i64.wrap ((d : Int) - (m : Int)) = (J0 : Int) := by rw [e2, IntKind.wrap_i64]; omega
  have HI0 := Lib.hid hI0
  have HJ0 := Lib.hid hJ0
  clear h hI0 hJ0
  go_enter Try.func318, Try.ntmps318
  go_wp2
  clear e1 e2 e1w e2w
  go_loopw [10, 11] (fun i j wr => ∃ (I J : Nat) (g' : Nat → Int × Nat), 1 ≤ I ∧ 1 ≤ J ∧ a + I ≤ m ∧ m + J ≤ d ∧ i = .int .i64 I ∧ j = .int .i64 J ∧ rotF g' (m - I) m (m + J) = rotF g a m d ∧ Shuf a d g g' ∧ wr.rowIs b 2 c (rowG (Value.int .i64) n g' f) ∧ Touch b (b + 1) w wr) (fun i j _ => (intOf i).toNat + (intOf j).toNat)
  case atStart =>
    have q1 := HI0.out; have q2 := HJ0.out
    exact ⟨I0, J0, g, by omega, by omega, by omega, by omega, rfl, rfl, by rw [show m - I0 = a by omega, show m + J0 = d by omega], .refl g, H.out, Touch.refl _ _ _⟩
  case round =>
    obtain ⟨I, J, g', hI1, hJ1, hIm, hJd, rfl, rfl, hrot, hsh, hrow, ht⟩ := hrel
    have HR := Lib.hid hrow
    have HT := Lib.hid ht
    have HROT := Lib.hid hrot
    have HSH := Lib.hid hsh
    clear hrow ht hrot hsh
    obtain ⟨S, hS⟩ : ∃ S, m - I = S := ⟨_, rfl⟩
    have e1 : (m : Int) - (I : Int) = (S : Int) := by omega
    have e1w : IntKind.i64.wrap ((m : Int) - (I : Int)) = (S : Int) := by rw [e1, IntKind.wrap_i64]; omega
    have HS := Lib.hid hS
    clear hS
    by_cases hne : I = J
    · subst hne
      go_wp2_with (go_at_call 329; refine (c_swpK b n c S m I g' f _ _ hn hc (by have := HS.out; omega) (by omega) HR.out).mono ?_; rintro e w' ⟨rfl, r', t'⟩)
      go_end0
      refine ⟨_, rfl, r', ⟨?_, ?_⟩, HT.out.trans t'⟩
      · rw [← HROT.out, ← HS.out]; exact rot_even g' (by omega)
      · exact HSH.out.trans (swpF_shuf g' (by have := HS.out; omega) I (by have := HS.out; omega) (by omega))
    · have n1 : ¬ (I : Int) = (J : Int) := by omega
      have n2 : ((I : Int) == (J : Int)) = false := by simpa using n1
      have n3 : ((I : Int) != (J : Int)) = true := by simpa using n1
      by_cases hlt : J < I
      · have l1 : (J : Int) < (I : Int) := by omega
        obtain ⟨I', hI'⟩ : ∃ I', I - J = I' := ⟨_, rfl⟩
        have e2 : (I : Int) - (J : Int) = (I' : Int) := by omega
        have e2w : IntKind.i64.wrap ((I : Int) - (J : Int)) = (I' : Int) := by rw [e2, IntKind.wrap_i64]; omega
        have HI' := Lib.hid hI'
        clear hI'
        go_wp2_with (go_at_call 329; refine (c_swpK b n c S m J g' f _ _ hn hc (by have := HS.out; omega) (by omega) HR.out).mono ?_; rintro e w' ⟨rfl, r', t'⟩)
        go_roundw
        case rel =>
          have q1 := HI'.out; have q2 := HS.out
          refine ⟨I', J, _, by omega, hJ1, by omega, hJd, rfl, rfl, ?_, HSH.out.trans (swpF_shuf g' (by omega) J (by omega) (by omega)), r', HT.out.trans t'⟩
          rw [← HROT.out, ← q2, show m - I' = m - I + J by omega]
          exact rot_left g' hlt (by omega)
        case measure => have q1 := HI'.out; simp [intOf]; omega
      · have l1 : ¬ (J : Int) < (I : Int) := by omega
        have l2 : (I : Int) < (J : Int) := by omega
        obtain ⟨J', hJ'⟩ : ∃ J', J - I = J' := ⟨_, rfl⟩
        obtain ⟨K0, hK0⟩ : ∃ K0, m + J = K0 := ⟨_, rfl⟩
        obtain ⟨K1, hK1⟩ : ∃ K1, K0 - I = K1 := ⟨_, rfl⟩
        have e2 : (J : Int) - (I : Int) = (J' : Int) := by omega
        have e2w : IntKind.i64.wrap ((J : Int) - (I : Int)) = (J' : Int) := by rw [e2, IntKind.wrap_i64]; omega
        have e3 : (m : Int) + (J : Int) = (K0 : Int) := by omega
        have e3w : IntKind.i64.wrap ((m : Int) + (J : Int)) = (K0 : Int) := by rw [e3, IntKind.wrap_i64]; omega
        have e4 : (K0 : Int) - (I : Int) = (K1 : Int) := by omega
        have e4w : IntKind.i64.wrap ((K0 : Int) - (I : Int)) = (K1 : Int) := by rw [e4, IntKind.wrap_i64]; omega
        have HJ' := Lib.hid hJ'
        have HK := Lib.hid (show m + J - I = K1 by rw [hK0, hK1])
        clear hJ' hK0 hK1
        go_wp2_with (go_at_call 329; refine (c_swpK b n c S K1 I g' f _ _ hn hc (by have := HS.out; have := HK.out; omega) (by have := HK.out; omega) HR.out).mono ?_; rintro e w' ⟨rfl, r', t'⟩)
        go_roundw
        case rel =>
          have q1 := HJ'.out; have q2 := HS.out; have q3 := HK.out
          refine ⟨I, J', _, hI1, by omega, hIm, by omega, rfl, rfl, ?_, HSH.out.trans (swpF_shuf g' (by omega) I (by omega) (by omega)), r', HT.out.trans t'⟩
          rw [← HROT.out, ← q2, ← q3, ← q1]
          exact rot_right g' (by omega) (by omega)
        case measure => have q1 := HJ'.out; simp [intOf]; omega
set_option maxHeartbeats 4000000 in
theorem c_insK (le : Int → Int → Bool) (tr : ∀ x y z, le x y = true → le y z = true → le x z = true) (tot : ∀ x y, le x y = true ∨ le y x = true) (Q : Int → Prop) (qb : Nat) (b n c a d : Nat) (g : Nat → Int × Nat) (f : Nat → Value) (w : World) (hn : n ≤ 1048576) (hc : n ≤ c) (h1 : a ≤ d) (h2 : d ≤ n) (hQ : ∀ k, a ≤ k → k < d → Q (g k).1) (htag : ∀ i j, a ≤ i → i < j → j < d → (g i).2 < (g j).2)
    (hcmp : CmpOk Try.prog le Q 212 (fun x y => #[.int .i64 x, .int .i64 y]) b w) (h : w.rowIs b 2 c (rowG (Value.int .i64) n g f)) :
    Calls Try.prog 296 #[.slice (some ⟨b, 0, none⟩) n c, .int .i64 a, .int .i64 d, .func (.func 212) #[] #[]] w (RetG (Value.int .i64) 2 b c n f (fun g' => Shuf a d g g' ∧ SortedOn (TL le) g' a d) w) := by
  have H := Lib.hid h
  have HQ := Lib.hid hQ
  have HTAG := Lib.hid htag
  have HCM := Lib.hid hcmp
  obtain ⟨a1, ha1⟩ : ∃ a1, a + 1 = a1 := ⟨_, rfl⟩
  have e1 : (a : Int) + 1 = (a1 : Int) := by omega
  have e1w : IntKind.i64.wrap ((a : Int) + 1) = (a1 : Int) := by rw [e1, IntKind.wrap_i64]; omega
  have HA1 := Lib.hid ha1
  clear h hQ htag hcmp ha1
  by_cases had : a = d
  · subst had
    have e3 : ¬ (a1 : Int) < (a : Int) := by omega
    go_enter Try.func296, Try.ntmps296
    go_wp2
    go_loop [8] (fun i => i = .int .i64 a1) (fun _ => 0)
    case atStart => rfl
    case round =>
      obtain rfl := hrel
      go_wp2
      go_end0
      exact ⟨g, rfl, H.out, ⟨.refl g, SortedOn.one g (by omega)⟩, Touch.refl _ _ _⟩
  go_enter Try.func296, Try.ntmps296
  go_wp2
  clear e1 e1w
  go_loopw [8] (fun i wr => ∃ (K : Nat) (g' : Nat → Int × Nat), a < K ∧ K ≤ d ∧ i = .int .i64 K ∧ Shuf a K g g' ∧ SortedOn (TL le) g' a K ∧ wr.rowIs b 2 c (rowG (Value.int .i64) n g' f) ∧ Touch b (b + 1) w wr) (fun i _ => n - (intOf i).toNat)
  case atStart => have q := HA1.out; exact ⟨a1, g, by omega, by omega, rfl, .refl g, SortedOn.one g (by omega), H.out, Touch.refl _ _ _⟩
  case round =>
    obtain ⟨K, g', hK1, hK2, rfl, hsh, hso, hrow, ht⟩ := hrel
    have HR := Lib.hid hrow
    have HT := Lib.hid ht
    have HSO := Lib.hid hso
    have HSH := Lib.hid hsh
    clear hrow ht hso hsh
    by_cases hlt : K < d
    · have hlt' : (K : Int) < (d : Int) := by omega
      go_wp2
      go_loopw [9] (fun j wq => ∃ J : Nat, a ≤ J ∧ J ≤ K ∧ j = .int .i64 J ∧ (J < K → TL le (g' K) (g' J)) ∧ wq.rowIs b 2 c (rowG (Value.int .i64) n (rotF g' J K (K + 1)) f) ∧ Touch b (b + 1) w wq) (fun j _ => (intOf j).toNat)
      case atStart => exact ⟨K, by omega, Nat.le_refl _, rfl, fun h => by omega, by rw [rot_none_l]; exact HR.out, HT.out⟩
      case round =>
        obtain ⟨J, hJ1, hJ2, rfl, hL, hrow, ht⟩ := hrel
        have HRQ := Lib.hid hrow
        have HTQ := Lib.hid ht
        have HL := Lib.hid hL
        clear hrow ht hL
        have HSQ := Lib.hid (show Shuf a (K + 1) g (rotF g' J K (K + 1)) from (HSH.out.mono (Nat.le_refl _) (by omega)).trans (by have := rot_down_shuf g' K (lo := a) (hi := K + 1) (Nat.le_refl _) (K - J) (by omega) (by omega); rwa [show K - (K - J) = J by omega] at this))
        have HTG := Lib.hid (show ∀ k, a ≤ k → k < K → (g' k).2 < (g' K).2 from fun k h1 h2 => by
          rw [HSH.out.out K (by omega)]
          exact HSH.out.all (fun x => x.2 < (g K).2) (fun q q1 q2 => HTAG.out q K q1 q2 hlt) k h1 h2)
        have HQG := Lib.hid (show ∀ k, a ≤ k → k < K + 1 → Q (g' k).1 from fun k h1 h2 => (HSH.out.mono (Nat.le_refl _) (show K ≤ K + 1 by omega)).all (fun x => Q x.1) (fun q q1 q2 => HQ.out q q1 (by omega)) k h1 h2)
        have hJd : (J : Int) < (n : Int) := by omega
        by_cases hJ : J = a
        · subst hJ
          have e3 : ¬ (J : Int) < (J : Int) := by omega
          have HSS := Lib.hid (show SortedOn (TL le) (rotF g' J K (K + 1)) J (K + 1) from down_sorted (TL.trans tr) HSO.out (Nat.le_refl _) (by omega) (fun h => by omega) (fun h => HL.out h))
          go_wp2
          go_quiet (fail)
          go_wp2
          go_roundw
          case rel => exact ⟨K + 1, _, by omega, by omega, by go_num, HSQ.out, HSS.out, by first | exact HRQ.out | exact rowD HRQ.out _, by first | exact HTQ.out | exact touchN HTQ.out _⟩
          case measure => simp [intOf]; omega
        · obtain ⟨i, hi⟩ : ∃ i, J = i + 1 := ⟨J - 1, by omega⟩
          have HI := Lib.hid hi
          obtain ⟨x, hx⟩ : ∃ x, (g' K).1 = x := ⟨_, rfl⟩
          obtain ⟨y, hy⟩ : ∃ y, (g' i).1 = y := ⟨_, rfl⟩
          have r1 : (rotF g' J K (K + 1) J).1 = x := by rw [← hx]; unfold rotF; rw [if_pos (by omega)]; congr 2; omega
          have r2 : (rotF g' J K (K + 1) i).1 = y := by rw [← hy]; unfold rotF; rw [if_neg (by omega), if_neg (by omega)]
          have c1 := HRQ.out.cell (i := J) (by omega)
          have c2 := HRQ.out.cell (i := i) (by omega)
          rw [rowG_at (by omega), r1] at c1
          rw [rowG_at (by omega), r2] at c2
          have f1 := HRQ.out.frozen J
          have f2 := HRQ.out.frozen i
          have e1 : IntKind.i64.wrap ((J : Int) - 1) = (i : Int) := by rw [hi, IntKind.wrap_i64]; omega
          have e2 : (J : Int) - 1 = (i : Int) := by omega
          have e3 : (a : Int) < (J : Int) := by omega
          have e4 : decide (a < J) = true := decide_eq_true (by omega)
          have e5 : (i : Int) < (n : Int) := by omega
          have e6 : (0 : Int) ≤ (i : Int) := by omega
          have ne1 : J ≠ i := by omega
          have ne2 : i ≠ J := by omega
          have HX := Lib.hid (show Q x by rw [← hx]; exact HQG.out K (by omega) (by omega))
          have HY := Lib.hid (show Q y by rw [← hy]; exact HQG.out i (by omega) (by omega))
          cases hle : le y x
          · have HV := Lib.hid (show cmpG le x y = -1 from cmpG_lt hle)
            have HRW := Lib.hid (rowG_swap HRQ.out (i := J) (j := i) (by omega) (by omega) r1 r2 ne1)
            have HRE := Lib.hid (show swapF (rotF g' J K (K + 1)) J i = rotF g' i K (K + 1) by have := rot_down g' J K (by omega) hJ2; rwa [show J - 1 = i by omega] at this)
            have HLL := Lib.hid (show TL le (g' K) (g' i) from TL.of_lt tot (by rw [hx, hy]; exact hle))
            clear hi hx hy r1 r2 hJ hle
            go_wp2
            go_quiet ((go_at_call 212; exact Calls.quiet_of (HCM.out _ (touchN HTQ.out _) x y (-1) HX.out HY.out HV.out)))
            go_wp2
            go_region
            all_goals
              clear c1 c2 f1 f2
              go_wp2
              go_roundw
              case rel => exact ⟨i, by omega, by omega, by go_num, fun _ => HLL.out, by rw [← HRE.out]; first | exact HRW.out | exact rowD HRW.out _ | skip, by first | exact touch1 (touch1 HTQ.out _ _) _ _ | exact touchN (touch1 (touch1 HTQ.out _ _) _ _) _ | exact touch1 (touch1 (touchN HTQ.out _) _ _) _ _ | exact touchN (touch1 (touch1 (touchN HTQ.out _) _ _) _ _) _⟩
              case measure => simp [intOf]; omega
          · obtain ⟨v, hv⟩ : ∃ v, cmpG le x y = v := ⟨_, rfl⟩
            have hv0 : 0 ≤ v := by rw [← hv]; exact cmpG_ge hle
            have HV := Lib.hid hv
            have HSS := Lib.hid (show SortedOn (TL le) (rotF g' J K (K + 1)) a (K + 1) from down_sorted (TL.trans tr) HSO.out hJ1 hJ2 (fun h => by rw [show J - 1 = i by omega]; exact TL.of_tag (by rw [hx, hy]; exact hle) (HTG.out i (by omega) (by omega))) (fun h => HL.out h))
            clear hi hx hy r1 r2 hJ hle hv
            go_wp2
            go_quiet ((go_at_call 212; exact Calls.quiet_of (HCM.out _ (touchN HTQ.out _) x y v HX.out HY.out HV.out)))
            go_wp2
            go_roundw
            case rel => exact ⟨K + 1, _, by omega, by omega, by go_num, HSQ.out, HSS.out, by first | exact HRQ.out | exact rowD HRQ.out _, by first | exact HTQ.out | exact touchN HTQ.out _⟩
            case measure => simp [intOf]; omega
    · obtain rfl : K = d := by omega
      go_wp2
      go_end0
      exact ⟨g', rfl, HR.out, ⟨HSH.out, HSO.out⟩, HT.out⟩
end Go.Proofs.Ytfbapbgiegploaa
