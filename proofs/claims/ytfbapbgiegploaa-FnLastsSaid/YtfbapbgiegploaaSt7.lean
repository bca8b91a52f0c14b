/- A merge in place, whole; the stable sort. -/
import Derived.Test.YtfbapbgiegploaaSt5
import Derived.Test.YtfbapbgiegploaaSt6
namespace Go.Proofs.Ytfbapbgiegploaa
open Go.ChangeShapes Go.WideShapes Go.ChangeAt Go.RowKit Go.Proofs.Ytfbapbgiegploaa.Smg
set_option linter.unusedVariables false
theorem c_symK (le : Int → Int → Bool) (tr : ∀ x y z, le x y = true → le y z = true → le x z = true) (tot : ∀ x y, le x y = true ∨ le y x = true) (Q : Int → Prop) (qb : Nat) (b n c : Nat) (f : Nat → Value) (hn : n ≤ 1048576) (hc : n ≤ c) : ∀ (s a m d : Nat) (g : Nat → Int × Nat) (w : World), d - a ≤ s → a < m → m < d → d ≤ n → (∀ k, a ≤ k → k < d → Q (g k).1) → (∀ i j, a ≤ i → i < m → m ≤ j → j < d → (g i).2 < (g j).2) → SortedOn (TL le) g a m → SortedOn (TL le) g m d →
    CmpOk Try.prog le Q 212 (fun x y => #[.int .i64 x, .int .i64 y]) b w → w.rowIs b 2 c (rowG (Value.int .i64) n g f) →
    Calls Try.prog 297 #[.slice (some ⟨b, 0, none⟩) n c, .int .i64 a, .int .i64 m, .int .i64 d, .func (.func 212) #[] #[]] w (RetG (Value.int .i64) 2 b c n f (fun g' => Shuf a d g g' ∧ SortedOn (TL le) g' a d) w)
  | 0, a, m, d, g, w, h0, h1, h2, _, _, _, _, _, _, _ => by omega
  | s + 1, a, m, d, g, w, h0, h1, h2, h3, hQ, htag, hs1, hs2, hcmp, h => by
    by_cases c1 : a + 1 = m
    · exact c_sym1K le tr tot Q qb b n c a m d g f w hn hc c1 h2 h3 hQ htag hs2 hcmp h
    by_cases c2 : m + 1 = d
    · exact c_sym2K le tr tot Q qb b n c a m d g f w hn hc (by omega) c2 h3 hQ htag hs1 hcmp h
    have ih : ∀ (a' m' d' : Nat) (g' : Nat → Int × Nat) (w' : World), d' - a' < d - a → a' < m' → m' < d' → d' ≤ n → (∀ k, a' ≤ k → k < d' → Q (g' k).1) → (∀ i j, a' ≤ i → i < m' → m' ≤ j → j < d' → (g' i).2 < (g' j).2) → SortedOn (TL le) g' a' m' → SortedOn (TL le) g' m' d' →
      CmpOk Try.prog le Q 212 (fun x y => #[.int .i64 x, .int .i64 y]) b w' → w'.rowIs b 2 c (rowG (Value.int .i64) n g' f) →
      Calls Try.prog 297 #[.slice (some ⟨b, 0, none⟩) n c, .int .i64 a', .int .i64 m', .int .i64 d', .func (.func 212) #[] #[]] w' (RetG (Value.int .i64) 2 b c n f (fun g'' => Shuf a' d' g' g'' ∧ SortedOn (TL le) g'' a' d') w') :=
      fun a' m' d' g' w' q1 q2 q3 q4 q5 q6 q7 q8 q9 q10 => c_symK le tr tot Q qb b n c f hn hc s a' m' d' g' w' (by omega) q2 q3 q4 q5 q6 q7 q8 q9 q10
    by_cases c3 : (a + d) / 2 < m
    · exact c_sym3K le tr tot Q qb b n c a m d g f w hn hc (by omega) (by omega) h3 c3 ih hQ htag hs1 hs2 hcmp h
    · exact c_sym4K le tr tot Q qb b n c a m d g f w hn hc (by omega) (by omega) h3 c3 ih hQ htag hs1 hs2 hcmp h
set_option maxRecDepth 100000 in
set_option maxHeartbeats 4000000 in
theorem c_stbK (le : Int → Int → Bool) (tr : ∀ x y z, le x y = true → le y z = true → le x z = true) (tot : ∀ x y, le x y = true ∨ le y x = true) (Q : Int → Prop) (qb : Nat) (b n c : Nat) (g : Nat → Int × Nat) (f : Nat → Value) (w : World) (hn : n ≤ 1048576) (hc : n ≤ c) (hQ : ∀ k, 0 ≤ k → k < n → Q (g k).1) (htag : ∀ k, k < n → (g k).2 = k)
    (hcmp : CmpOk Try.prog le Q 212 (fun x y => #[.int .i64 x, .int .i64 y]) b w) (h : w.rowIs b 2 c (rowG (Value.int .i64) n g f)) :
    Calls Try.prog 271 #[.slice (some ⟨b, 0, none⟩) n c, .int .i64 n, .func (.func 212) #[] #[]] w (RetG (Value.int .i64) 2 b c n f (fun g' => Shuf 0 n g g' ∧ SortedOn (TL le) g' 0 n) w) := by
  have H := Lib.hid h
  have HQ := Lib.hid hQ
  have HTAG := Lib.hid htag
  have HCM := Lib.hid hcmp
  clear h hQ htag hcmp
  go_enter Try.func271, Try.ntmps271
  go_wp2
  go_loopw [7, 8] (fun x y wr => ∃ (q a b2 : Nat) (g' : Nat → Int × Nat), a = q * 20 ∧ b2 = a + 20 ∧ a ≤ n ∧ x = .int .i64 a ∧ y = .int .i64 b2 ∧ Ins le 20 a n g g' ∧ wr.rowIs b 2 c (rowG (Value.int .i64) n g' f) ∧ Touch b (b + 1) w wr) (fun x y _ => n + 20 - (intOf x).toNat)
  case atStart => exact ⟨0, 0, 20, g, by omega, by omega, by omega, rfl, rfl, Ins.start HTAG.out, H.out, Touch.refl _ _ _⟩
  case round =>
    obtain ⟨q, a, b2, g', ha, hb2, han, rfl, rfl, hins, hrow, ht⟩ := hrel
    have HR := Lib.hid hrow
    have HT := Lib.hid ht
    have HI := Lib.hid hins
    have HA := Lib.hid ha
    have HB2 := Lib.hid hb2
    clear hrow ht hins ha hb2
    have HQ' := Lib.hid (show ∀ k, a ≤ k → k < n → Q (g' k).1 from fun k h1 h2 => HI.out.shuf.all (fun x => Q x.1) HQ.out k (Nat.zero_le _) h2)
    have HTG := Lib.hid (show ∀ i j, a ≤ i → i < j → j < n → (g' i).2 < (g' j).2 from fun i j h1 h2 h3 => by
      rw [HI.out.rest i h1, HI.out.rest j (by omega), HTAG.out i (by omega), HTAG.out j h3]; exact h2)
    by_cases hlt : b2 ≤ n
    · have e1 : (b2 : Int) ≤ (n : Int) := by omega
      go_wp2_with fail
      refine (c_insK le tr tot Q qb b n c a b2 g' f _ hn hc (by have := HB2.out; omega) hlt (fun k h1 h2 => HQ'.out k h1 (by omega)) (fun i j h1 h2 h3 => HTG.out i j h1 h2 (by omega)) (HCM.out.on HT.out) HR.out).mono ?_
      rintro e w' ⟨g2, rfl, r2, ⟨s2, o2⟩, t2⟩
      have R2 := Lib.hid r2
      have T2 := Lib.hid (HT.out.trans t2)
      have I2 := Lib.hid (HI.out.step HA.out (by have := HB2.out; omega) (by have := HB2.out; omega) hlt (by decide) s2 o2)
      clear r2 s2 o2 t2
      go_wp2
      go_roundw
      case rel => exact ⟨q + 1, b2, b2 + 20, g2, by have := HA.out; have := HB2.out; omega, rfl, hlt, rfl, by go_num, I2.out, R2.out, T2.out⟩
      case measure => have := HB2.out; simp [intOf]; omega
    · have e1 : ¬ (b2 : Int) ≤ (n : Int) := by omega
      go_wp2_with fail
      refine (c_insK le tr tot Q qb b n c a n g' f _ hn hc han (Nat.le_refl _) HQ'.out HTG.out (HCM.out.on HT.out) HR.out).mono ?_
      rintro e w' ⟨g2, rfl, r2, ⟨s2, o2⟩, t2⟩
      have R2 := Lib.hid r2
      have T2 := Lib.hid (HT.out.trans t2)
      have K2 := Lib.hid ((HI.out.step HA.out han (by have := HB2.out; omega) (Nat.le_refl _) (by decide) s2 o2).done)
      clear r2 s2 o2 t2
      go_wp2
      go_loopw [6] (fun x wr => ∃ (bs : Nat) (g3 : Nat → Int × Nat), 1 ≤ bs ∧ bs ≤ 4194304 ∧ x = .int .i64 bs ∧ Blk le bs n g g3 ∧ wr.rowIs b 2 c (rowG (Value.int .i64) n g3 f) ∧ Touch b (b + 1) w wr) (fun x _ => n - (intOf x).toNat)
      case atStart => exact ⟨20, g2, by decide, by decide, rfl, K2.out, R2.out, T2.out⟩
      case round =>
        obtain ⟨bs, g3, hbs1, hbs2, rfl, hblk, hrow, ht⟩ := hrel
        have HR3 := Lib.hid hrow
        have HT3 := Lib.hid ht
        have HBK := Lib.hid hblk
        clear hrow ht hblk
        by_cases hbn : bs < n
        · have e2 : (bs : Int) < (n : Int) := by omega
          obtain ⟨B2, hB2⟩ : ∃ B, 2 * bs = B := ⟨_, rfl⟩
          have e3 : (2 : Int) * (bs : Int) = (B2 : Int) := by omega
          have e3' : (bs : Int) * (2 : Int) = (B2 : Int) := by omega
          have hB2b : B2 ≤ 2097152 := by omega
          have HBB := Lib.hid hB2
          clear hB2
          go_wp2
          go_loopw [7, 8] (fun x y wq => ∃ (q a b2 : Nat) (g4 : Nat → Int × Nat), a = q * (2 * bs) ∧ b2 = a + 2 * bs ∧ a ≤ n ∧ x = .int .i64 a ∧ y = .int .i64 b2 ∧ Mid le bs a n g g4 ∧ wq.rowIs b 2 c (rowG (Value.int .i64) n g4 f) ∧ Touch b (b + 1) w wq) (fun x y _ => n + B2 - (intOf x).toNat)
          case atStart => exact ⟨0, 0, B2, g3, by omega, by have := HBB.out; omega, by omega, rfl, rfl, Mid.start HBK.out, HR3.out, HT3.out⟩
          case round =>
            obtain ⟨q, a, b2, g4, ha, hb2, han, rfl, rfl, hmid, hrow, ht⟩ := hrel
            have HR4 := Lib.hid hrow
            have HT4 := Lib.hid ht
            have HMD := Lib.hid hmid
            have HA := Lib.hid ha
            have HB2 := Lib.hid hb2
            clear hrow ht hmid ha hb2
            obtain ⟨m2, hm2⟩ : ∃ m2, a + bs = m2 := ⟨_, rfl⟩
            have e4 : (a : Int) + (bs : Int) = (m2 : Int) := by omega
            have hm2b : m2 ≤ 2097152 := by omega
            have HM2 := Lib.hid hm2
            clear hm2
            have HQ4 := Lib.hid (show ∀ k, 0 ≤ k → k < n → Q (g4 k).1 from HMD.out.shuf.all (fun x => Q x.1) HQ.out)
            by_cases hlt : b2 ≤ n
            · have e5 : (b2 : Int) ≤ (n : Int) := by omega
              obtain ⟨b3, hb3⟩ : ∃ b3, b2 + B2 = b3 := ⟨_, rfl⟩
              have e6 : (b2 : Int) + (B2 : Int) = (b3 : Int) := by omega
              have hb3b : b3 ≤ 4194304 := by omega
              have HB3 := Lib.hid hb3
              clear hb3
              have hp := HMD.out.pre HA.out (by have := HB2.out; omega) hlt (by omega) (by have := HB2.out; omega)
              rw [HM2.out] at hp
              have HP := Lib.hid hp
              clear hp
              go_wp2_with fail
              refine (c_symK le tr tot Q qb b n c f hn hc (b2 - a) a m2 b2 g4 _ (Nat.le_refl _) (by have := HM2.out; omega) (by have := HM2.out; have := HB2.out; omega) hlt (fun k h1 h2 => HQ4.out k (Nat.zero_le _) (by omega)) HP.out.2.2 HP.out.1 HP.out.2.1 (HCM.out.on HT4.out) HR4.out).mono ?_
              rintro e w' ⟨g5, rfl, r5, ⟨s5, o5⟩, t5⟩
              have R5 := Lib.hid r5
              have T5 := Lib.hid (HT4.out.trans t5)
              have M5 := Lib.hid (HMD.out.step HA.out (by have := HB2.out; omega) hlt (by omega) (by have := HB2.out; omega) s5 o5)
              clear r5 s5 o5 t5
              go_wp2
              go_roundw
              case rel => exact ⟨q + 1, b2, b3, g5, by have := HA.out; have := HB2.out; rw [Nat.add_mul, Nat.one_mul]; omega, by have := HBB.out; have := HB3.out; omega, hlt, rfl, by first | rfl | go_num, M5.out, R5.out, T5.out⟩
              case measure => have := HB2.out; simp [intOf]; omega
            · have e5 : ¬ (b2 : Int) ≤ (n : Int) := by omega
              by_cases hmn : m2 < n
              · have e6 : (m2 : Int) < (n : Int) := by omega
                have hp := HMD.out.pre HA.out (b := n) (by have := HB2.out; omega) (Nat.le_refl _) (by omega) (by have := HM2.out; omega)
                rw [HM2.out] at hp
                have HP := Lib.hid hp
                clear hp
                go_wp2_with fail
                refine (c_symK le tr tot Q qb b n c f hn hc (n - a) a m2 n g4 _ (Nat.le_refl _) (by have := HM2.out; omega) hmn (Nat.le_refl _) (fun k h1 h2 => HQ4.out k (Nat.zero_le _) (by omega)) HP.out.2.2 HP.out.1 HP.out.2.1 (HCM.out.on HT4.out) HR4.out).mono ?_
                rintro e w' ⟨g5, rfl, r5, ⟨s5, o5⟩, t5⟩
                have R5 := Lib.hid r5
                have T5 := Lib.hid (HT4.out.trans t5)
                have M5 := Lib.hid ((HMD.out.step HA.out (by have := HB2.out; omega) (Nat.le_refl _) (by omega) (by have := HM2.out; omega) s5 o5).done (Nat.le_refl _))
                clear r5 s5 o5 t5
                go_wp2
                go_roundw
                case rel => exact ⟨B2, g5, by have := HBB.out; omega, by omega, by first | rfl | go_num, by rw [← HBB.out]; exact M5.out, R5.out, T5.out⟩
                case measure => have := HBB.out; simp [intOf]; omega
              · have e6 : ¬ (m2 : Int) < (n : Int) := by omega
                have M5 := Lib.hid (HMD.out.rest HA.out (by omega) (by have := HM2.out; omega))
                go_wp2
                go_roundw
                case rel => exact ⟨B2, g4, by have := HBB.out; omega, by omega, by first | rfl | go_num, by rw [← HBB.out]; exact M5.out, HR4.out, HT4.out⟩
                case measure => have := HBB.out; simp [intOf]; omega
        · have e2 : ¬ (bs : Int) < (n : Int) := by omega
          have HF := Lib.hid (HBK.out.all (by omega))
          go_wp2
          first | go_end0 | (simp only [Exit.inBlock, Exit.then]; refine bodyPost_ret (results_none rfl _ _ _) rfl ?_) | refine bodyPost_ret (results_none rfl _ _ _) rfl ?_
          exact ⟨g3, rfl, HR3.out, ⟨HBK.out.shuf, HF.out⟩, HT3.out⟩
theorem c_SortStableK (le : Int → Int → Bool) (tr : ∀ x y z, le x y = true → le y z = true → le x z = true) (tot : ∀ x y, le x y = true ∨ le y x = true) (Q : Int → Prop) (qb : Nat) (b n c : Nat) (g : Nat → Int × Nat) (f : Nat → Value) (w : World) (hn : n ≤ 1048576) (hc : n ≤ c) (hQ : ∀ k, 0 ≤ k → k < n → Q (g k).1) (htag : ∀ k, k < n → (g k).2 = k)
    (hcmp : CmpOk Try.prog le Q 212 (fun x y => #[.int .i64 x, .int .i64 y]) b w) (h : w.rowIs b 2 c (rowG (Value.int .i64) n g f)) :
    Calls Try.prog 211 #[.slice (some ⟨b, 0, none⟩) n c, .func (.func 212) #[] #[]] w (RetG (Value.int .i64) 2 b c n f (fun g' => Shuf 0 n g g' ∧ SortedOn (TL le) g' 0 n) w) := by
  have H := Lib.hid h
  have HQ := Lib.hid hQ
  have HTAG := Lib.hid htag
  have HCM := Lib.hid hcmp
  clear h hQ htag hcmp
  go_enter Try.func211, Try.ntmps211
  go_wp2_with fail
  refine (c_stbK le tr tot Q qb b n c g f _ hn hc HQ.out HTAG.out HCM.out H.out).mono ?_
  rintro e w' ⟨g2, rfl, r2, s2, t2⟩
  have R2 := Lib.hid r2
  have S2 := Lib.hid s2
  have T2 := Lib.hid t2
  clear r2 s2 t2
  go_wp2
  first | go_end0 | (simp only [Exit.inBlock, Exit.then]; refine bodyPost_ret (results_none rfl _ _ _) rfl ?_) | refine bodyPost_ret (results_none rfl _ _ _) rfl ?_
  exact ⟨g2, rfl, R2.out, S2.out, T2.out⟩
end Go.Proofs.Ytfbapbgiegploaa
