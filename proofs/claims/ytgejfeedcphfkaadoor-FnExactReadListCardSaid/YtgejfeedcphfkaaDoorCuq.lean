/- Texts cut at a mark: the other side (l01Cut). -/
import Derived.Test.YtgejfeedcphfkaaDoorCup
import Derived.Test.YtgejfeedcphfkaaDoorLtx
import Derived.Test.YtgejfeedcphfkaaDoorPlb
namespace Go.Proofs.YtgejfeedcphfkaaDoor
open Go.ChangeShapes Go.WideShapes Go.ChangeAt Go.RowKit
set_option linter.unusedVariables false
theorem take_byte (s : ByteArray) (k : Nat) (h : k < s.size) : s.data.toList.take (k + 1) = s.data.toList.take k ++ [s[k]] := by
  rw [List.take_succ_eq_append_getElem (by simpa using h)]; rfl
set_option maxHeartbeats 4000000 in
theorem c_spec_l01Cut (s : ByteArray) (c : UInt8) (z : Int) (hz : (c.toNat : Int) = z) (w : World) (hs : s.size ≤ 1048576) :
    Calls Tryd.prog 89 #[.string s, .int .u8 z] w (RetS 9 (cutL c s.data.toList).length (txts (cutL c s.data.toList)) w) := by
  obtain ⟨i0, hi, hz0, hz1, hz2⟩ := info_parts info_str
  have hsI : (s.size : Int) ≤ 1048576 := by omega
  obtain ⟨n, hn⟩ : ∃ n, s.size = n := ⟨_, rfl⟩
  have HN := Lib.hid hn
  have HZ := Lib.hid hz
  obtain ⟨L, hL⟩ : ∃ L, s.data.toList = L := ⟨_, rfl⟩
  have HL := Lib.hid hL
  have hLn : L.length = n := by rw [← hL, ← hn]; rfl
  have HLN := Lib.hid hLn
  rw [hL]
  clear hn hz hL hLn
  go_enter Tryd.func89, Tryd.ntmps89
  go_wp2
  go_loopw [5, 6, 7] (fun v f i wr => ∃ (k a : Nat) (P : List (List UInt8)), k ≤ n + 1 ∧ i = .int .i64 (k : Int) ∧ f = .int .i64 (a : Int) ∧ wr.ownsRow w.heap.size 9 1 v P.length (txts P) ∧ Ext w wr ∧ ((k ≤ n ∧ a ≤ k ∧ cutL c (L.take k) = P ++ [(L.take k).drop a]) ∨ (k = n + 1 ∧ P = cutL c L))) (fun _ _ i _ => n + 1 - (intOf i).toNat)
  case atStart => exact ⟨0, 0, [], Nat.zero_le _, rfl, rfl, made_at _ _ _ rfl (Nat.le_refl _) (Nat.zero_le _) rfl, Ext.alloc _ _, .inl ⟨Nat.zero_le _, Nat.le_refl _, rfl⟩⟩
  case round =>
    obtain ⟨k, a, P, hk, rfl, rfl, hown, hext, hP⟩ := hrel
    have HO := Lib.hid hown
    have HE := Lib.hid hext
    have HES := Lib.hid hext.size
    clear hown hext
    rcases hP with ⟨hkn, hak, hP⟩ | ⟨hkn, hP⟩
    · have hknI : (k : Int) ≤ (s.size : Int) := by rw [HN.out]; omega
      have hakI : (a : Int) ≤ (k : Int) := by omega
      have hPl : P.length ≤ n := by
        have h1 := cutL_len c (L.take k)
        rw [hP, List.length_append, List.length_take] at h1
        simp at h1
        omega
      obtain ⟨x, hx⟩ : ∃ x, s.extract a k = x := ⟨_, rfl⟩
      have HX := Lib.hid (show x = txt ((L.take k).drop a) by rw [← hx, extract_txt, HL.out])
      have HXX := Lib.hid hx
      have HPP := Lib.hid hP
      have HPL := Lib.hid hPl
      clear hP hx hPl
      by_cases hlt : k < n
      · have hltI : (k : Int) < (s.size : Int) := by rw [HN.out]; omega
        have hlts : k < s.size := by rw [HN.out]; exact hlt
        have hne : ((k : Int) == (s.size : Int)) = false := by simp; have := HN.out; omega
        have hne2 : ¬ (k : Int) = (s.size : Int) := by omega
        obtain ⟨b, hb⟩ : ∃ b, s[k] = b := ⟨_, rfl⟩
        obtain ⟨y, hy⟩ : ∃ y : Int, (b.toNat : Int) = y := ⟨_, rfl⟩
        have hsn := cutL_snoc c b (L.take k) P _ HPP.out
        have htk : L.take (k + 1) = L.take k ++ [b] := by
          have := take_byte s k hlts
          rw [HL.out, hb] at this
          exact this
        rw [← htk] at hsn
        have HTK := Lib.hid htk
        have HSN := Lib.hid hsn
        have HB := Lib.hid hb
        have HY := Lib.hid hy
        have hyc : y = z ↔ b = c := by
          rw [← hy, ← HZ.out]
          constructor
          · intro h; exact UInt8.toNat_inj.1 (by omega)
          · intro h; rw [h]
        have hb0 : (s[k].toNat : Int) = y := by rw [hb, hy]
        clear hsn htk hb hy
        by_cases e : y = z
        · have hbc := hyc.1 e
          have HBC := Lib.hid hbc
          have g1 : (y == z) = true := by simp [e]
          have HE2 := Lib.hid e
          clear hyc hbc e
          have hxx := HXX.out
          go_wp2_with (at_builtin; refine wpList_append_own _ rfl _ _ 52 rfl w.heap.size 9 i0 (.string ByteArray.empty) 1 16 Tryd.underlying52 hi hz0 hz1 hz2 rfl (by decide) _ _ _ rfl (HO.out.alloc _) ⟨_, 0, none⟩ 1 1 [.string x] rfl rfl (one_cell_at _ _ _) (by intro u hu; simp at hu; subst hu; rfl) (by unfold maxLen; have := HPL.out; have := HN.out; omega) (by have := HPL.out; have := HN.out; omega) (by have := HES.out; first | (simp; omega) | omega) ?_; intro v' w1 hown' hgrow _; have HX1 := Lib.hid (show Ext w w1 from Below.grown (HE.out.stepA _) hgrow (by have := HES.out; first | (simp; omega) | omega) (fun j hj => by have := (HO.out.lt j hj).1; first | omega | (simp; omega))); rw [HX.out, ← txts_snoc] at hown'; have HOW := Lib.hid hown'; clear hown' hgrow)
          go_roundw
          case rel => exact ⟨k + 1, k + 1, P ++ [(L.take k).drop a], by omega, by go_num, by go_num, by rw [List.length_append]; exact HOW.out, HX1.out, .inl ⟨by omega, Nat.le_refl _, by have := HSN.out; rw [if_pos HBC.out] at this; rw [this, show (L.take (k + 1)).drop (k + 1) = [] from List.drop_of_length_le (by rw [List.length_take]; exact Nat.min_le_left _ _)]⟩⟩
          case measure => first | (simp [intOf]; done) | (simp [intOf]; omega)
        · have hbc : ¬ b = c := fun h => e (hyc.2 h)
          have HBC := Lib.hid hbc
          have g1 : (y == z) = false := by simp [e]
          clear hyc hbc
          go_wp2
          go_roundw
          case rel => exact ⟨k + 1, a, P, by omega, by go_num, rfl, HO.out, HE.out, .inl ⟨by omega, by omega, by have := HSN.out; rw [if_neg HBC.out] at this; rw [this, HTK.out, List.drop_append_of_le_length (by rw [List.length_take, HLN.out]; omega)]⟩⟩
          case measure => first | (simp [intOf]; done) | (simp [intOf]; omega)
      · obtain rfl : k = n := by omega
        have hne : ((k : Int) == (s.size : Int)) = true := by simp; have := HN.out; omega
        have hxx := HXX.out
        have HCL := Lib.hid (show cutL c L = P ++ [(L.take k).drop a] by have := HPP.out; rwa [List.take_of_length_le (by rw [HLN.out]; exact Nat.le_refl _)] at this ⊢)
        go_wp2_with (at_builtin; refine wpList_append_own _ rfl _ _ 52 rfl w.heap.size 9 i0 (.string ByteArray.empty) 1 16 Tryd.underlying52 hi hz0 hz1 hz2 rfl (by decide) _ _ _ rfl (HO.out.alloc _) ⟨_, 0, none⟩ 1 1 [.string x] rfl rfl (one_cell_at _ _ _) (by intro u hu; simp at hu; subst hu; rfl) (by unfold maxLen; have := HPL.out; have := HN.out; omega) (by have := HPL.out; have := HN.out; omega) (by have := HES.out; first | (simp; omega) | omega) ?_; intro v' w1 hown' hgrow _; have HX1 := Lib.hid (show Ext w w1 from Below.grown (HE.out.stepA _) hgrow (by have := HES.out; first | (simp; omega) | omega) (fun j hj => by have := (HO.out.lt j hj).1; first | omega | (simp; omega))); rw [HX.out, ← txts_snoc] at hown'; have HOW := Lib.hid hown'; clear hown' hgrow)
        go_roundw
        case rel => exact ⟨k + 1, k + 1, P ++ [(L.take k).drop a], by omega, by go_num, by go_num, by rw [List.length_append]; exact HOW.out, HX1.out, .inr ⟨rfl, HCL.out.symm⟩⟩
        case measure => first | (simp [intOf]; done) | (simp [intOf]; omega)
    · subst hkn
      have hgt : ¬ ((n : Int) + 1 ≤ (s.size : Int)) := by rw [HN.out]; omega
      have HP2 := Lib.hid hP
      clear hP
      obtain ⟨va, vc, rfl, hol⟩ := Own.of_row (e := 0) HO.out
      have HOL := Lib.hid hol
      clear hol
      go_wp2
      go_ret
      exact ⟨va, vc, by rw [HP2.out]; rfl, by rw [← HP2.out]; exact HOL.out, HE.out⟩
end Go.Proofs.YtgejfeedcphfkaaDoor
