/- x -/
import Derived.Test.YtfbapbgiegploaaSt4
import Derived.Deep.DeepCutAuto
import Derived.Deep.LoopGhost
import Derived.Deep.CutRange
namespace Go.Proofs.Ytfbapbgiegploaa
open Go.ChangeShapes Go.WideShapes Go.ChangeAt Go.RowKit Go.Proofs.Ytfbapbgiegploaa.Smg
set_option linter.unusedVariables false
set_option maxRecDepth 100000 in
set_option maxHeartbeats 8000000 in
theorem c_sym3K (le : Int → Int → Bool) (tr : ∀ x y z, le x y = true → le y z = true → le x z = true) (tot : ∀ x y, le x y = true ∨ le y x = true) (Q : Int → Prop) (qb : Nat) (b n c a m d : Nat) (g : Nat → Int × Nat) (f : Nat → Value) (w : World) (hn : n ≤ 1048576) (hc : n ≤ c) (h1 : a + 1 < m) (h2 : m + 1 < d) (h3 : d ≤ n) (hm : (a + d) / 2 < m)
    (ih : ∀ (a' m' d' : Nat) (g' : Nat → Int × Nat) (w' : World), d' - a' < d - a → a' < m' → m' < d' → d' ≤ n → (∀ k, a' ≤ k → k < d' → Q (g' k).1) → (∀ i j, a' ≤ i → i < m' → m' ≤ j → j < d' → (g' i).2 < (g' j).2) → SortedOn (TL le) g' a' m' → SortedOn (TL le) g' m' d' →
      CmpOk Try.prog le Q 212 (fun x y => #[.int .i64 x, .int .i64 y]) b w' → w'.rowIs b 2 c (rowG (Value.int .i64) n g' f) →
      Calls Try.prog 297 #[.slice (some ⟨b, 0, none⟩) n c, .int .i64 a', .int .i64 m', .int .i64 d', .func (.func 212) #[] #[]] w' (RetG (Value.int .i64) 2 b c n f (fun g'' => Shuf a' d' g' g'' ∧ SortedOn (TL le) g'' a' d') w'))
    (hQ : ∀ k, a ≤ k → k < d → Q (g k).1) (htag : ∀ i j, a ≤ i → i < m → m ≤ j → j < d → (g i).2 < (g j).2) (hs1 : SortedOn (TL le) g a m) (hs2 : SortedOn (TL le) g m d)
    (hcmp : CmpOk Try.prog le Q 212 (fun x y => #[.int .i64 x, .int .i64 y]) b w) (h : w.rowIs b 2 c (rowG (Value.int .i64) n g f)) :
    Calls Try.prog 297 #[.slice (some ⟨b, 0, none⟩) n c, .int .i64 a, .int .i64 m, .int .i64 d, .func (.func 212) #[] #[]] w (RetG (Value.int .i64) 2 b c n f (fun g' => Shuf a d g g' ∧ SortedOn (TL le) g' a d) w) := by
  have H := Lib.hid h
  have IH := Lib.hid ih
  have HQ := Lib.hid hQ
  have HTAG := Lib.hid htag
  have HCM := Lib.hid hcmp
  have HS1 := Lib.hid hs1
  have HS2 := Lib.hid hs2
  obtain ⟨D, hD⟩ : ∃ D, m - a = D := ⟨_, rfl⟩
  obtain ⟨E0, hE0⟩ : ∃ E, d - m = E := ⟨_, rfl⟩
  obtain ⟨M, hM⟩ : ∃ M, (a + d) / 2 = M := ⟨_, rfl⟩
  obtain ⟨N, hN⟩ : ∃ N, M + m = N := ⟨_, rfl⟩
  obtain ⟨P, hP⟩ : ∃ P, N = P + 1 := ⟨N - 1, by omega⟩
  have e1 : (m : Int) - (a : Int) = (D : Int) := by omega
  have n1 : ¬ (D : Int) = 1 := by omega
  have n2 : ((D : Int) == 1) = false := by simpa using n1
  have hDb : D ≤ 1048576 := by omega
  have e2 : (d : Int) - (m : Int) = (E0 : Int) := by omega
  have n3 : ¬ (E0 : Int) = 1 := by omega
  have n4 : ((E0 : Int) == 1) = false := by simpa using n3
  have hEb : E0 ≤ 1048576 := by omega
  have e3 : ((a : Int) + (d : Int)) / 2 = (M : Int) := by omega
  have hMb : M ≤ 1048576 := by omega
  have hM1 : a < M := by omega
  have hM2 : M < d := by omega
  have e4 : (M : Int) + (m : Int) = (N : Int) := by omega
  have e5 : (N : Int) - 1 = (P : Int) := by omega
  have hNb : N ≤ 2097152 := by omega
  rw [hM] at hm
  have HN := Lib.hid hN
  have HP := Lib.hid hP
  have HM := Lib.hid hM
  clear h ih hQ htag hcmp hs1 hs2 hD hE0 hM hN hP
  -- the bounds of the search
  obtain ⟨s0, r0, hs0, hr0, hsr, hsP, hrP, hsa, hrm, hend1, hend2⟩ : ∃ s0 r0 : Nat, (m > M → s0 = N - d ∧ r0 = M) ∧ (¬ m > M → s0 = a ∧ r0 = m) ∧ s0 ≤ r0 ∧ (∀ c, s0 ≤ c → c < r0 → m ≤ P - c ∧ P - c < d ∧ c ≤ P) ∧ (∀ c, s0 ≤ c → c < r0 → a ≤ c ∧ c < m) ∧ a ≤ s0 ∧ r0 ≤ m ∧ (s0 = a ∨ N - s0 = d) ∧ (r0 = m ∨ N - r0 = m) := by
    have q1 := HN.out; have q2 := HP.out; have q3 := HM.out
    by_cases hm : m > M
    · exact ⟨N - d, M, fun _ => ⟨rfl, rfl⟩, fun h => absurd hm h, by omega, fun c h1 h2 => by omega, fun c h1 h2 => by omega, by omega, by omega, by omega, by omega⟩
    · exact ⟨a, m, fun h => absurd h hm, fun _ => ⟨rfl, rfl⟩, by omega, fun c h1 h2 => by omega, fun c h1 h2 => by omega, by omega, by omega, by omega, by omega⟩
  have HSP := Lib.hid hsP
  have HRP := Lib.hid hrP
  have HE1 := Lib.hid hend1
  have HE2 := Lib.hid hend2
  clear hsP hrP hend1 hend2
  obtain ⟨hs0', hr0'⟩ := hs0 hm
  have HS0 := Lib.hid hs0'
  have HR0 := Lib.hid hr0'
  clear hs0 hr0 hs0' hr0'
  have k0 : (M : Int) < (m : Int) := by omega
  have k0e : (N : Int) - (d : Int) = (s0 : Int) := by have := HN.out; have := HM.out; have := HS0.out; omega
  have k0f : s0 ≤ 1048576 := by have := HN.out; have := HM.out; have := HS0.out; omega
  go_enter Try.func297, Try.ntmps297
  go_wp2
  clear e1 e2 n1 n2 n3 n4 e3 e4 e5
  go_loopw [20, 21] (fun x y wr => ∃ i j : Nat, s0 ≤ i ∧ i ≤ j ∧ j ≤ r0 ∧ x = .int .i64 i ∧ y = .int .i64 j ∧ (s0 < i → TL le (g (i - 1)) (g (P - (i - 1)))) ∧ (j < r0 → TL le (g (P - j)) (g j)) ∧ wr.rowIs b 2 c (rowG (Value.int .i64) n g f) ∧ Touch b (b + 1) w wr) (fun x y _ => (intOf y).toNat - (intOf x).toNat)
  case atStart => exact ⟨s0, r0, Nat.le_refl _, hsr, Nat.le_refl _, rfl, by rw [HR0.out], fun h => by omega, fun h => by omega, H.out, Touch.refl _ _ _⟩
  case round =>
    obtain ⟨i, j, hmi, hij, hjd, rfl, rfl, hl, hr, hrow, ht⟩ := hrel
    have HR := Lib.hid hrow
    have HT := Lib.hid ht
    have HL := Lib.hid hl
    have HRR := Lib.hid hr
    clear hrow ht hl hr
    by_cases hlt : i < j
    · obtain ⟨q, hq⟩ : ∃ q, (i + j) / 2 = q := ⟨_, rfl⟩
      have hqi : ((i : Int) + (j : Int)) / 2 = (q : Int) := by omega
      have hq1 : i ≤ q := by omega
      have hq2 : q < j := by omega
      have hlt' : (i : Int) < (j : Int) := by omega
      have hqn : (q : Int) < (n : Int) := by omega
      obtain ⟨o, ho⟩ : ∃ o, P - q = o := ⟨_, rfl⟩
      have hb1 := HSP.out q (by omega) (by omega)
      have hb2 := HRP.out q (by omega) (by omega)
      have e6 : (P : Int) - (q : Int) = (o : Int) := by omega
      have e6b : o ≤ 1048576 := by omega
      have e7 : (o : Int) < (n : Int) := by omega
      obtain ⟨x, hx⟩ : ∃ x, (g o).1 = x := ⟨_, rfl⟩
      obtain ⟨y, hy⟩ : ∃ y, (g q).1 = y := ⟨_, rfl⟩
      have c1 := HR.out.cell (i := o) (by omega)
      have c2 := HR.out.cell (i := q) (by omega)
      rw [rowG_at (by omega), hx] at c1
      rw [rowG_at (by omega), hy] at c2
      have HX := Lib.hid (show Q x by rw [← hx]; exact HQ.out o (by omega) (by omega))
      have HY := Lib.hid (show Q y by rw [← hy]; exact HQ.out q (by omega) (by omega))
      cases hle : le y x
      · have HV := Lib.hid (show cmpG le x y = -1 from cmpG_lt hle)
        have HNN := Lib.hid (show TL le (g (P - q)) (g q) from by rw [ho]; exact TL.of_lt tot (by rw [hx, hy]; exact hle))
        clear hq hx hy hle ho hb1 hb2
        go_wp2
        go_quiet ((go_at_call 212; exact Calls.quiet_of (HCM.out _ (touchN HT.out _) x y (-1) HX.out HY.out HV.out)))
        go_wp2
        go_roundw
        case rel => exact ⟨i, q, hmi, by omega, by omega, rfl, rfl, HL.out, fun _ => HNN.out, by first | exact HR.out | exact rowD HR.out _, by first | exact HT.out | exact touchN HT.out _⟩
        case measure => simp [intOf]; omega
      · obtain ⟨v, hv⟩ : ∃ v, cmpG le x y = v := ⟨_, rfl⟩
        have hv0 : 0 ≤ v := by rw [← hv]; exact cmpG_ge hle
        have hv1 : ¬ v < 0 := by omega
        have hv2 : decide (v < 0) = false := decide_eq_false (by omega)
        have HV := Lib.hid hv
        have HNN := Lib.hid (show TL le (g q) (g (P - q)) from by rw [ho]; exact TL.of_tag (by rw [hx, hy]; exact hle) (HTAG.out q o (by omega) (by omega) (by omega) (by omega)))
        clear hq hx hy hle hv ho hb1 hb2
        go_wp2
        go_quiet ((go_at_call 212; exact Calls.quiet_of (HCM.out _ (touchN HT.out _) x y v HX.out HY.out HV.out)))
        go_wp2
        go_roundw
        case rel => exact ⟨q + 1, j, by omega, by omega, hjd, by go_num, rfl, fun _ => by rw [show q + 1 - 1 = q by omega]; exact HNN.out, HRR.out, by first | exact HR.out | exact rowD HR.out _, by first | exact HT.out | exact touchN HT.out _⟩
        case measure => simp [intOf]; omega
    · obtain rfl : i = j := by omega
      obtain ⟨e, he⟩ : ∃ e, N - i = e := ⟨_, rfl⟩
      have q1 := HN.out
      have q2 := HP.out
      have q3 := HE1.out
      have q4 := HE2.out
      have q5 := HM.out
      have q6 := HS0.out
      have q7 := HR0.out
      have e8 : (N : Int) - (i : Int) = (e : Int) := by omega
      have hei : i + (e - m) = M := by omega
      have hae : a ≤ i := by omega
      have him : i ≤ m := by omega
      have hme : m ≤ e := by omega
      have hed : e ≤ d := by omega
      have heb : e ≤ 1048576 := by omega
      obtain ⟨p1, p2, p3, p4⟩ := rot_parts HS1.out HS2.out hae him hme hed
      rw [hei] at p2 p3
      have CR := Lib.hid (show Cross (TL le) (rotF g i m e) a M d from by
        have := mid_cross (TL.trans tr) HS1.out HS2.out hae him hme hed (fun h4 h5 => by
          have := HL.out (by omega)
          rwa [show P - (i - 1) = e by omega] at this) (fun h4 h5 => by
          have := HRR.out (by omega)
          rwa [show P - i = e - 1 by omega] at this)
        rwa [hei] at this)
      have P1 := Lib.hid p1
      have P2 := Lib.hid p2
      have P3 := Lib.hid p3
      have P4 := Lib.hid p4
      have TG1 := Lib.hid (show ∀ x y, a ≤ x → x < i → i ≤ y → y < M → (rotF g i m e x).2 < (rotF g i m e y).2 from fun x y h4 h5 h6 h7 => by
        unfold rotF
        rw [if_neg (by omega), if_neg (by omega), if_pos (by omega)]
        exact HTAG.out _ _ h4 (by omega) (by omega) (by omega))
      have TG2 := Lib.hid (show ∀ x y, M ≤ x → x < e → e ≤ y → y < d → (rotF g i m e x).2 < (rotF g i m e y).2 from fun x y h4 h5 h6 h7 => by
        unfold rotF
        rw [if_neg (by omega), if_pos (by omega), if_neg (by omega), if_neg (by omega)]
        exact HTAG.out _ _ (by omega) (by omega) (by omega) h7)
      clear p1 p2 p3 p4 q1 q2 q3 q4 q5 q6 q7 he
      have QG1 := Lib.hid (show ∀ k, a ≤ k → k < d → Q (rotF g i m e k).1 from fun k h6 h7 => by
        unfold rotF
        split
        · exact HQ.out _ (by omega) (by omega)
        · split
          · exact HQ.out _ (by omega) (by omega)
          · exact HQ.out _ (by omega) (by omega))
      have hMi : (M : Int) ≤ 1048576 := by omega
      obtain ⟨B39, hB⟩ : ∃ B, decide (i < m ∧ m < e) = B := ⟨_, rfl⟩; have HB39 := Lib.hid hB; clear hB
      go_upto_region 39 with fail
      go_cut [185] from 178 to 185 (fun s wx => s = .bool B39 ∧ wx.rowIs b 2 c (rowG (Value.int .i64) n g f) ∧ Touch b (b + 1) w wx)
      case first =>
        by_cases k1 : i < m
        · have k1i : (i : Int) < (m : Int) := by omega
          have k1d : decide (i < m) = true := decide_eq_true k1
          by_cases k2 : m < e
          · have k2i : (m : Int) < (e : Int) := by omega
            go_wp2
            go_meet
            first | exact ⟨by rw [← HB39.out, decide_eq_true (And.intro k1 k2)], HR.out, HT.out⟩ | (case rel => exact ⟨by rw [← HB39.out, decide_eq_true (And.intro k1 k2)], HR.out, HT.out⟩)
          · have k2i : ¬ (m : Int) < (e : Int) := by omega
            have k2d : decide (m < e) = false := decide_eq_false k2
            go_wp2
            go_meet
            first | exact ⟨by rw [← HB39.out, decide_eq_false (fun h => k2 h.2)], HR.out, HT.out⟩ | (case rel => exact ⟨by rw [← HB39.out, decide_eq_false (fun h => k2 h.2)], HR.out, HT.out⟩)
        · have k1i : ¬ (i : Int) < (m : Int) := by omega
          have k1d : decide (i < m) = false := decide_eq_false k1
          go_wp2
          go_meet
          first | exact ⟨by rw [← HB39.out, decide_eq_false (fun h => k1 h.1)], HR.out, HT.out⟩ | (case rel => exact ⟨by rw [← HB39.out, decide_eq_false (fun h => k1 h.1)], HR.out, HT.out⟩)
      case rest =>
        obtain ⟨hs, r0', t0'⟩ := hcut; subst hs; have R0 := Lib.hid r0'; have T0 := Lib.hid t0'; clear r0' t0'
        go_upto_if 185 with fail
        go_cut [] from 186 to 191 (fun wx => wx.rowIs b 2 c (rowG (Value.int .i64) n (rotF g i m e) f) ∧ Shuf a d g (rotF g i m e) ∧ Touch b (b + 1) w wx)
        case first =>
          rcases Bool.eq_false_or_eq_true B39 with hb | hb
          · subst hb; have hrot := of_decide_eq_true HB39.out
            go_wp2_with fail; refine (c_rotK b n c i m e g f _ _ hn hc hrot.1 hrot.2 (by omega) R0.out).mono ?_; rintro e' w1 ⟨g1, rfl, r1, ⟨hg1, s1⟩, t1⟩; subst hg1; have R1 := Lib.hid r1; have S1 := Lib.hid (s1.mono (show a ≤ i by omega) (show e ≤ d by omega)); have T1 := Lib.hid (T0.out.trans t1); clear r1 s1 t1; go_wp2
            go_meet
            first | exact ⟨R1.out, S1.out, T1.out⟩ | (case rel => exact ⟨R1.out, S1.out, T1.out⟩)
          · subst hb; have hrot := of_decide_eq_false HB39.out
            have hz : rotF g i m e = g := by
              by_cases hz : i = m
              · subst hz; exact rot_none_l _ _ _
              · obtain rfl : m = e := by omega
                exact rot_none_r _ _ _
            have R1 := Lib.hid (show wc.rowIs b 2 c (rowG (Value.int .i64) n (rotF g i m e) f) from by rw [hz]; exact R0.out)
            have S1 := Lib.hid (show Shuf a d g (rotF g i m e) from by rw [hz]; exact .refl g)
            clear hz hrot
            go_wp2
            go_meet
            first | exact ⟨R1.out, S1.out, T0.out⟩ | (case rel => exact ⟨R1.out, S1.out, T0.out⟩)
        case rest =>
          obtain ⟨r1, s1, t1⟩ := hcut; obtain ⟨wd, hwd⟩ : ∃ z, z = wc := ⟨_, rfl⟩; subst hwd; have R1 := Lib.hid r1; have S1 := Lib.hid s1; have T1 := Lib.hid t1; clear r1 s1 t1
          obtain ⟨B41, hB⟩ : ∃ B, decide (a < i ∧ i < M) = B := ⟨_, rfl⟩; have HB41 := Lib.hid hB; clear hB
          go_upto_region 41 with fail
          go_cut [199] from 192 to 199 (fun s wx => s = .bool B41 ∧ wx.rowIs b 2 c (rowG (Value.int .i64) n (rotF g i m e) f) ∧ Touch b (b + 1) w wx)
          case first =>
            by_cases k1 : a < i
            · have k1i : (a : Int) < (i : Int) := by omega
              have k1d : decide (a < i) = true := decide_eq_true k1
              by_cases k2 : i < M
              · have k2i : (i : Int) < (M : Int) := by omega
                go_wp2
                go_meet
                first | exact ⟨by rw [← HB41.out, decide_eq_true (And.intro k1 k2)], R1.out, T1.out⟩ | (case rel => exact ⟨by rw [← HB41.out, decide_eq_true (And.intro k1 k2)], R1.out, T1.out⟩)
              · have k2i : ¬ (i : Int) < (M : Int) := by omega
                have k2d : decide (i < M) = false := decide_eq_false k2
                go_wp2
                go_meet
                first | exact ⟨by rw [← HB41.out, decide_eq_false (fun h => k2 h.2)], R1.out, T1.out⟩ | (case rel => exact ⟨by rw [← HB41.out, decide_eq_false (fun h => k2 h.2)], R1.out, T1.out⟩)
            · have k1i : ¬ (a : Int) < (i : Int) := by omega
              have k1d : decide (a < i) = false := decide_eq_false k1
              go_wp2
              go_meet
              first | exact ⟨by rw [← HB41.out, decide_eq_false (fun h => k1 h.1)], R1.out, T1.out⟩ | (case rel => exact ⟨by rw [← HB41.out, decide_eq_false (fun h => k1 h.1)], R1.out, T1.out⟩)
          case rest =>
            obtain ⟨hs, r0', t0'⟩ := hcut; subst hs; obtain ⟨we, hwe⟩ : ∃ z, z = wc := ⟨_, rfl⟩; subst hwe; have R1' := Lib.hid r0'; have T1' := Lib.hid t0'; clear r0' t0'
            go_upto_if 199 with fail
            go_cut [] from 200 to 205 (fun wx => ∃ g2, wx.rowIs b 2 c (rowG (Value.int .i64) n g2 f) ∧ Shuf a M (rotF g i m e) g2 ∧ SortedOn (TL le) g2 a M ∧ Touch b (b + 1) w wx)
            case first =>
              rcases Bool.eq_false_or_eq_true B41 with hb | hb
              · subst hb; have hl := of_decide_eq_true HB41.out
                go_wp2_with fail; refine (IH.out a i M (rotF g i m e) _ (by omega) hl.1 hl.2 (by omega) (fun k h4 h5 => QG1.out k h4 (by omega)) TG1.out P1.out P2.out (HCM.out.on T1'.out) R1'.out).mono ?_; rintro e' w2 ⟨g2, rfl, r2, ⟨s2, o2⟩, t2⟩; have R2 := Lib.hid r2; have S2 := Lib.hid s2; have O2 := Lib.hid o2; have T2 := Lib.hid (T1'.out.trans t2); clear r2 s2 o2 t2; go_wp2
                go_meet
                first | exact ⟨_, R2.out, S2.out, O2.out, T2.out⟩ | (case rel => exact ⟨_, R2.out, S2.out, O2.out, T2.out⟩)
              · subst hb; have hl := of_decide_eq_false HB41.out
                have O2 := Lib.hid (sym_skipL P1.out P2.out (by omega) (by omega) hl)
                go_wp2
                go_meet
                first | exact ⟨_, R1'.out, .refl _, O2.out, T1'.out⟩ | (case rel => exact ⟨_, R1'.out, .refl _, O2.out, T1'.out⟩)
            case rest =>
              obtain ⟨g2, r2, s2, o2, t2⟩ := hcut; obtain ⟨wf, hwf⟩ : ∃ z, z = wc := ⟨_, rfl⟩; subst hwf; have R2 := Lib.hid r2; have S2 := Lib.hid s2; have O2 := Lib.hid o2; have T2 := Lib.hid t2; clear r2 s2 o2 t2
              obtain ⟨B43, hB⟩ : ∃ B, decide (M < e ∧ e < d) = B := ⟨_, rfl⟩; have HB43 := Lib.hid hB; clear hB
              go_upto_region 43 with fail
              go_cut [213] from 206 to 213 (fun s wx => s = .bool B43 ∧ wx.rowIs b 2 c (rowG (Value.int .i64) n g2 f) ∧ Touch b (b + 1) w wx)
              case first =>
                by_cases k1 : M < e
                · have k1i : (M : Int) < (e : Int) := by omega
                  have k1d : decide (M < e) = true := decide_eq_true k1
                  by_cases k2 : e < d
                  · have k2i : (e : Int) < (d : Int) := by omega
                    go_wp2
                    go_meet
                    first | exact ⟨by rw [← HB43.out, decide_eq_true (And.intro k1 k2)], R2.out, T2.out⟩ | (case rel => exact ⟨by rw [← HB43.out, decide_eq_true (And.intro k1 k2)], R2.out, T2.out⟩)
                  · have k2i : ¬ (e : Int) < (d : Int) := by omega
                    have k2d : decide (e < d) = false := decide_eq_false k2
                    go_wp2
                    go_meet
                    first | exact ⟨by rw [← HB43.out, decide_eq_false (fun h => k2 h.2)], R2.out, T2.out⟩ | (case rel => exact ⟨by rw [← HB43.out, decide_eq_false (fun h => k2 h.2)], R2.out, T2.out⟩)
                · have k1i : ¬ (M : Int) < (e : Int) := by omega
                  have k1d : decide (M < e) = false := decide_eq_false k1
                  go_wp2
                  go_meet
                  first | exact ⟨by rw [← HB43.out, decide_eq_false (fun h => k1 h.1)], R2.out, T2.out⟩ | (case rel => exact ⟨by rw [← HB43.out, decide_eq_false (fun h => k1 h.1)], R2.out, T2.out⟩)
              case rest =>
                obtain ⟨hs, r0', t0'⟩ := hcut; subst hs; obtain ⟨wg, hwg⟩ : ∃ z, z = wc := ⟨_, rfl⟩; subst hwg; have R2' := Lib.hid r0'; have T2' := Lib.hid t0'; clear r0' t0'
                rcases Bool.eq_false_or_eq_true B43 with hb | hb
                · subst hb; have hl := of_decide_eq_true HB43.out
                  go_wp2_with fail; refine (IH.out M e d g2 _ (by omega) hl.1 hl.2 (by omega) (fun k h4 h5 => by rw [S2.out.out k (by omega)]; exact QG1.out k (by omega) h5) (fun x y h4 h5 h6 h7 => by rw [S2.out.out x (by omega), S2.out.out y (by omega)]; exact TG2.out x y h4 h5 h6 h7) (P3.out.congr fun k h4 h5 => S2.out.out k (by omega)) (P4.out.congr fun k h4 h5 => S2.out.out k (by omega)) (HCM.out.on T2'.out) R2'.out).mono ?_; rintro e' w3 ⟨g3, rfl, r3, ⟨s3, o3⟩, t3⟩; have R3 := Lib.hid r3; have S3 := Lib.hid s3; have O3 := Lib.hid o3; have T3 := Lib.hid (T2'.out.trans t3); clear r3 s3 o3 t3; go_wp2
                  first | go_end0 | (simp only [Exit.inBlock, Exit.then]; refine bodyPost_ret (results_none rfl _ _ _) rfl ?_) | refine bodyPost_ret (results_none rfl _ _ _) rfl ?_
                  exact ⟨g3, rfl, R3.out, sym_fin (by omega) (by omega) S1.out CR.out S2.out O2.out S3.out O3.out, T3.out⟩
                · subst hb; have hl := of_decide_eq_false HB43.out
                  have O3 := Lib.hid ((sym_skipL P3.out P4.out (by omega) (by omega) hl).congr fun k h4 h5 => S2.out.out k (by omega))
                  go_wp2
                  first | go_end0 | (simp only [Exit.inBlock, Exit.then]; refine bodyPost_ret (results_none rfl _ _ _) rfl ?_) | refine bodyPost_ret (results_none rfl _ _ _) rfl ?_
                  exact ⟨g2, rfl, R2'.out, sym_fin (by omega) (by omega) S1.out CR.out S2.out O2.out (.refl g2) O3.out, T2'.out⟩
end Go.Proofs.Ytfbapbgiegploaa
