/- CountOutputs: both sides. -/
import Derived.Test.YtgejfeedcphfkaaDoorCuq
import Derived.Test.YtgejfeedcphfkaaDoorShs
import Derived.Test.YtgejfeedcphfkaaDoorCel
import Derived.Deep.QuietTactic
import Derived.BigQuiet
namespace Go.Proofs.YtgejfeedcphfkaaDoor
open Go.ChangeShapes Go.WideShapes Go.ChangeAt Go.RowKit
set_option linter.unusedVariables false
def MaxP (w : World) : Prop := ∃ m, w.cell? ⟨0, 0, none⟩ = some (.int .i64 m)
theorem MaxP.on {w w' : World} (h : MaxP w) (e : Ext w w') : MaxP w' := by
  obtain ⟨m, hm⟩ := h
  exact ⟨m, by rw [e.cell _ _ (World.block_lt_of_cell? w _ hm)]; exact hm⟩
def pcs (c : UInt8) (s : ByteArray) : List (List UInt8) := cutL c s.data.toList
def getP (P : List (List UInt8)) (i : Nat) : ByteArray := txt (P[i]?.getD [])
def badB (t : ByteArray) : Bool := (t.toList == [110, 111]) || (t.toList == [119, 104, 97, 116])
def badN (P : List (List UInt8)) : Nat → Nat
  | 0 => 0
  | k + 1 => badN P k + (if badB (getP P k) = true then 1 else 0)
theorem badN_le (P : List (List UInt8)) : ∀ k, badN P k ≤ k
  | 0 => Nat.le_refl _
  | k + 1 => by
    have := badN_le P k
    show badN P k + _ ≤ k + 1
    split <;> omega
theorem badN_step (P : List (List UInt8)) (k : Nat) : badN P (k + 1) = badN P k + (if badB (getP P k) = true then 1 else 0) := rfl
def coB (s : ByteArray) : Bool := decide (s.size ≤ 16000) && (getP (pcs 10 s) ((pcs 10 s).length - 1)).toList.isEmpty
def coA (s : ByteArray) : Int := if coB s then (badN (pcs 10 s) ((pcs 10 s).length - 1) : Nat) else 0
def coC (s : ByteArray) : Int := if coB s then (((pcs 10 s).length - 1 : Nat) : Int) - (badN (pcs 10 s) ((pcs 10 s).length - 1) : Nat) else 0
theorem pcs_pos (c : UInt8) (s : ByteArray) : 1 ≤ (pcs c s).length := by
  have := cutL_ne c s.data.toList
  unfold pcs
  cases h : cutL c s.data.toList with
  | nil => exact absurd h this
  | cons _ _ => simp
theorem pcs_len (c : UInt8) (s : ByteArray) : (pcs c s).length ≤ s.size + 1 := by
  have := cutL_len c s.data.toList
  have e : s.data.toList.length = s.size := rfl
  unfold pcs; omega
/-- strings.Split at one byte, in the pieces' words -/
theorem c_Split (s : ByteArray) (c : UInt8) (w : World) (hs : s.size ≤ 1048576) (hM : MaxP w) :
    Calls Tryd.prog 90 #[.string s, .string ⟨#[c]⟩] w fun e w' => e = .returned (.slice (some ⟨w.heap.size, 0, none⟩) (pcs c s).length (pcs c s).length) ∧ Ext w w' ∧ ∀ i, i < (pcs c s).length → w'.cell? ⟨w.heap.size, i, none⟩ = some (.string (getP (pcs c s) i)) := by
  obtain ⟨m, hm⟩ := hM
  have h := Sh.strings_Split s ⟨#[c]⟩ m w (by omega) hm (by simp [ByteArray.size])
  rw [cut_len s c, split_cut s c] at h
  refine h.mono ?_
  rintro e w' ⟨rfl, rfl⟩
  refine ⟨rfl, Ext.alloc _ _, fun i hi => ?_⟩
  have h1 : (txts (cutL c s.data.toList))[i]? = some (.string (getP (pcs c s) i)) := txts_get _ i hi
  rw [(Box.alloc w (txts (cutL c s.data.toList)).toArray 9).cell i, List.getElem?_toArray]
  exact h1
/-- the lines of a text -/
def RetL (s : ByteArray) (w : World) (e : Ending) (w' : World) : Prop := ∃ (a : Option Addr) (c : Nat), e = .returned (.tuple #[.slice a ((pcs 10 s).length - 1) c, .bool ((getP (pcs 10 s) ((pcs 10 s).length - 1)).toList.isEmpty)]) ∧ Ext w w' ∧ ((pcs 10 s).length - 1 = 0 ∨ ∃ g, a = some ⟨g, 0, none⟩ ∧ ∀ i, i < (pcs 10 s).length - 1 → w'.cell? ⟨g, i, none⟩ = some (.string (getP (pcs 10 s) i)))
set_option maxHeartbeats 2000000 in
theorem c_linesOf (s : ByteArray) (w : World) (hs : s.size ≤ 16000) (hM : MaxP w) :
    Calls Tryd.prog 59 #[.string s] w (RetL s w) := by
  have HM := Lib.hid hM
  have hsI : ¬ (16000 : Int) < (s.size : Int) := by omega
  have hp := pcs_pos 10 s
  have hl := pcs_len 10 s
  have HS := Lib.hid hs
  obtain ⟨n, hn⟩ : ∃ n, (pcs 10 s).length = n + 1 := ⟨(pcs 10 s).length - 1, by omega⟩
  have HN := Lib.hid hn
  have hnI : (n : Int) ≤ 16000 := by omega
  have hn0 : (0 : Int) ≤ (n : Int) := by omega
  obtain ⟨K, hK⟩ : ∃ K, n + 1 = K := ⟨_, rfl⟩
  have HK := Lib.hid hK
  have k1 : (K : Int) - 1 = (n : Int) := by omega
  have k2 : (n : Int) ≤ (K : Int) := by omega
  have k3 : (n : Int) < (K : Int) := by omega
  have k4 : n ≤ K := by omega
  clear hM hp hl hs hn hK
  go_enter Tryd.func59, Tryd.ntmps59
  go_wp2_with fail
  refine (c_Split s 10 _ (by have := HS.out; omega) HM.out).mono ?_; rintro e w1 ⟨rfl, x1, hc⟩
  rw [HN.out, HK.out] at hc ⊢
  have X1 := Lib.hid x1
  have HC := Lib.hid hc
  have hcn := hc n (by omega)
  obtain ⟨t, ht⟩ : ∃ t, getP (pcs 10 s) n = t := ⟨_, rfl⟩
  rw [ht] at hcn
  have HTT := Lib.hid ht
  clear x1 hc ht
  go_wp2
  go_quiet (fail)
  go_wp2
  go_ret2
  refine ⟨some ⟨w.heap.size, 0, none⟩, K, ?_, X1.out.trans (Ext.drewN _ _), ?_⟩
  · rw [HN.out, Nat.add_sub_cancel, HTT.out]; rfl
  · rw [HN.out, Nat.add_sub_cancel]
    exact .inr ⟨_, rfl, fun i hi => HC.out i (by have := HK.out; omega)⟩
set_option maxHeartbeats 2000000 in
theorem c_linesOf_long (s : ByteArray) (w : World) (hs : 16000 < s.size) (h2 : s.size ≤ 1048576) :
    Calls Tryd.prog 59 #[.string s] w fun e w' => e = .returned (.tuple #[.slice none 0 0, .bool false]) ∧ w' = w := by
  have hsI : (16000 : Int) < (s.size : Int) := by omega
  clear hs
  go_enter Tryd.func59, Tryd.ntmps59
  go_wp2
  go_ret2
  exact ⟨rfl, rfl⟩
/-- what CountOutputs answers -/
def RetCo (s : ByteArray) (w : World) (e : Ending) (w' : World) : Prop := e = .returned (.tuple #[.int .i64 (coA s), .int .i64 (coC s), .bool (coB s)]) ∧ Ext w w'
theorem coB_long {s : ByteArray} (h : 16000 < s.size) : coB s = false ∧ coA s = 0 ∧ coC s = 0 := by
  have hb : coB s = false := by unfold coB; rw [decide_eq_false (by omega)]; rfl
  exact ⟨hb, by unfold coA; rw [hb]; rfl, by unfold coC; rw [hb]; rfl⟩
theorem coB_rest {s : ByteArray} {n : Nat} (h : s.size ≤ 16000) (hn : (pcs 10 s).length = n + 1) (he : (getP (pcs 10 s) n).toList.isEmpty = false) : coB s = false ∧ coA s = 0 ∧ coC s = 0 := by
  have hb : coB s = false := by unfold coB; rw [hn, Nat.add_sub_cancel, he, Bool.and_false]
  exact ⟨hb, by unfold coA; rw [hb]; rfl, by unfold coC; rw [hb]; rfl⟩
theorem coB_yes {s : ByteArray} {n : Nat} (h : s.size ≤ 16000) (hn : (pcs 10 s).length = n + 1) (he : (getP (pcs 10 s) n).toList.isEmpty = true) : coB s = true ∧ coA s = (badN (pcs 10 s) n : Nat) ∧ coC s = (n : Int) - (badN (pcs 10 s) n : Nat) := by
  have hb : coB s = true := by unfold coB; rw [hn, Nat.add_sub_cancel, he, decide_eq_true h]; rfl
  exact ⟨hb, by unfold coA; rw [hb, hn, Nat.add_sub_cancel]; rfl, by unfold coC; rw [hb, hn, Nat.add_sub_cancel]; rfl⟩
set_option maxHeartbeats 4000000 in
theorem c_impl_CountOutputs (s : ByteArray) (w : World) (hs : s.size ≤ 1048576) (hM : MaxP w) :
    Calls Tryd.prog 26 #[.string s] w (RetCo s w) := by
  have HM := Lib.hid hM
  clear hM
  by_cases hl : 16000 < s.size
  · obtain ⟨q1, q2, q3⟩ := coB_long hl
    have HL := Lib.hid hl
    have Q := Lib.hid (show RetCo s w = fun e w' => e = .returned (.tuple #[.int .i64 0, .int .i64 0, .bool false]) ∧ Ext w w' by unfold RetCo; rw [q1, q2, q3])
    rw [Q.out]
    clear q1 q2 q3 hl
    go_enter Tryd.func26, Tryd.ntmps26
    go_wp2_with fail
    refine (c_linesOf_long s _ HL.out hs).mono ?_; rintro e w' ⟨rfl, rfl⟩
    go_wp2
    go_ret3
    exact ⟨rfl, Ext.refl _⟩
  have hs16 : s.size ≤ 16000 := by omega
  have HS := Lib.hid hs16
  have hp := pcs_pos 10 s
  have hpl := pcs_len 10 s
  obtain ⟨n, hn⟩ : ∃ n, (pcs 10 s).length = n + 1 := ⟨(pcs 10 s).length - 1, by omega⟩
  have HN := Lib.hid hn
  have hn1 : n ≤ 16000 := by omega
  obtain ⟨le, hle⟩ : ∃ b, (getP (pcs 10 s) n).toList.isEmpty = b := ⟨_, rfl⟩
  have HLE := Lib.hid hle
  clear hl hp hpl hs
  cases le
  · obtain ⟨q1, q2, q3⟩ := coB_rest hs16 hn hle
    have Q := Lib.hid (show RetCo s w = fun e w' => e = .returned (.tuple #[.int .i64 0, .int .i64 0, .bool false]) ∧ Ext w w' by unfold RetCo; rw [q1, q2, q3])
    rw [Q.out]
    clear q1 q2 q3 hle hn hs16
    go_enter Tryd.func26, Tryd.ntmps26
    go_wp2_with fail
    refine (c_linesOf s _ HS.out HM.out).mono ?_; rintro e w1 ⟨a, c, rfl, x1, hc⟩
    rw [HN.out, Nat.add_sub_cancel, HLE.out]
    have X1 := Lib.hid x1
    clear x1 hc
    go_wp2
    go_ret3
    exact ⟨rfl, X1.out⟩
  · obtain ⟨q1, q2, q3⟩ := coB_yes hs16 hn hle
    obtain ⟨P, hPP⟩ : ∃ P, pcs 10 s = P := ⟨_, rfl⟩
    rw [hPP] at q2 q3
    have HPP := Lib.hid hPP
    have Q := Lib.hid (show RetCo s w = fun e w' => e = .returned (.tuple #[.int .i64 ((badN P n : Nat) : Int), .int .i64 ((n : Int) - (badN P n : Nat)), .bool true]) ∧ Ext w w' by unfold RetCo; rw [q1, q2, q3])
    rw [Q.out]
    clear q1 q2 q3 hle hn hs16 hPP
    go_enter Tryd.func26, Tryd.ntmps26
    go_wp2_with fail
    refine (c_linesOf s _ HS.out HM.out).mono ?_; rintro e w1 ⟨a, c, rfl, x1, hc⟩
    rw [HN.out, Nat.add_sub_cancel] at hc
    rw [HN.out, Nat.add_sub_cancel, HLE.out]
    have X1 := Lib.hid x1
    have HC := Lib.hid hc
    clear x1 hc
    go_wp2
    go_loopw [7, 20] (fun r i wr => ∃ k : Nat, k ≤ n ∧ i = .int .i64 (k : Int) ∧ r = .int .i64 ((badN P k : Nat) : Int) ∧ wr = w1) (fun _ i _ => n - (intOf i).toNat)
    case atStart => exact ⟨0, Nat.zero_le _, rfl, rfl, rfl⟩
    case round =>
      obtain ⟨k, hk, rfl, rfl, rfl⟩ := hrel
      have hbl := badN_le P k
      by_cases hlt : k < n
      · have hltI : (k : Int) < (n : Int) := by omega
        rcases HC.out with h0 | ⟨g, rfl, hc⟩
        · omega
        have hck := hc k hlt
        rw [HPP.out] at hck
        have hst := badN_step P k
        obtain ⟨t, ht⟩ : ∃ t, getP P k = t := ⟨_, rfl⟩
        rw [ht] at hck hst
        obtain ⟨B, hB⟩ : ∃ B, badN P k = B := ⟨_, rfl⟩
        rw [hB] at hst hbl ⊢
        clear ht hB hc
        cases h1 : (t.toList == [110, 111])
        · have n1 : ¬ t.toList = [110, 111] := fun e => by rw [e] at h1; simp at h1
          cases h2 : (t.toList == [119, 104, 97, 116])
          · have n2 : ¬ t.toList = [119, 104, 97, 116] := fun e => by rw [e] at h2; simp at h2
            have HST := Lib.hid (show badN P (k + 1) = B by rw [hst]; unfold badB; rw [h1, h2]; rfl)
            clear hst
            go_wp2
            go_roundw
            case rel => exact ⟨k + 1, by omega, by go_num, by rw [HST.out], by first | rfl | trivial⟩
            case measure => simp [intOf]; omega
          · have HST := Lib.hid (show badN P (k + 1) = B + 1 by rw [hst]; unfold badB; rw [h1, h2]; rfl)
            clear hst
            go_wp2
            go_roundw
            case rel => exact ⟨k + 1, by omega, by go_num, by rw [HST.out]; go_num, by first | rfl | trivial⟩
            case measure => simp [intOf]; omega
        · have HST := Lib.hid (show badN P (k + 1) = B + 1 by rw [hst]; unfold badB; rw [h1]; rfl)
          have n1 : t.toList = [110, 111] := by simpa using h1
          clear hst
          go_wp2
          go_roundw
          case rel => exact ⟨k + 1, by omega, by go_num, by rw [HST.out]; go_num, by first | rfl | trivial⟩
          case measure => simp [intOf]; omega
      · obtain rfl : k = n := by omega
        go_wp2
        go_ret3
        exact ⟨rfl, X1.out⟩
/-- the lines of a text, and what is behind them -/
def RetM (s : ByteArray) (w : World) (e : Ending) (w' : World) : Prop := ∃ (a : Option Addr) (c : Nat), e = .returned (.tuple #[.slice a ((pcs 10 s).length - 1) c, .string (getP (pcs 10 s) ((pcs 10 s).length - 1))]) ∧ Ext w w' ∧ ((pcs 10 s).length - 1 = 0 ∨ ∃ g, a = some ⟨g, 0, none⟩ ∧ ∀ i, i < (pcs 10 s).length - 1 → w'.cell? ⟨g, i, none⟩ = some (.string (getP (pcs 10 s) i)))
set_option maxHeartbeats 2000000 in
theorem c_spec_l08Lines (s : ByteArray) (w : World) (hs : s.size ≤ 1048576) :
    Calls Tryd.prog 58 #[.string s] w (RetM s w) := by
  have hp := pcs_pos 10 s
  have hl := pcs_len 10 s
  have HS := Lib.hid hs
  obtain ⟨n, hn⟩ : ∃ n, (pcs 10 s).length = n + 1 := ⟨(pcs 10 s).length - 1, by omega⟩
  have HN := Lib.hid hn
  have hnI : (n : Int) ≤ 1048576 := by omega
  have hn0 : (0 : Int) ≤ (n : Int) := by omega
  obtain ⟨K, hK⟩ : ∃ K, n + 1 = K := ⟨_, rfl⟩
  have HK := Lib.hid hK
  have k1 : (K : Int) - 1 = (n : Int) := by omega
  have k3 : (n : Int) < (K : Int) := by omega
  clear hp hl hs hn hK
  go_enter Tryd.func58, Tryd.ntmps58
  go_wp2_with fail
  refine (c_spec_l01Cut s 10 10 rfl _ HS.out).mono ?_; rintro e w1 ⟨a, c, rfl, o1, x1⟩
  have hlen : (cutL 10 s.data.toList).length = K := by have := HN.out; unfold pcs at this; rw [this]; exact HK.out
  rw [hlen] at o1 ⊢
  have X1 := Lib.hid x1
  have hcp := o1.2.1
  obtain ⟨g, rfl, hc⟩ : ∃ g, a = some ⟨g, 0, none⟩ ∧ ∀ i, i < K → w1.cell? ⟨g, i, none⟩ = some (.string (getP (pcs 10 s) i)) := by
    rcases o1.2.2 with ⟨rfl, hc⟩ | ⟨g, f, rfl, _, _, hr, hf⟩
    · have := HK.out; omega
    · refine ⟨g, rfl, fun i hi => ?_⟩
      rw [hr.cell (by omega), ← hf i hi]
      exact txts_get _ i (by rw [hlen]; exact hi)
  have k2 : (n : Int) ≤ (c : Int) := by omega
  have k4 : n ≤ c := by omega
  have HC := Lib.hid hc
  have hcn := hc n (by omega)
  obtain ⟨t, ht⟩ : ∃ t, getP (pcs 10 s) n = t := ⟨_, rfl⟩
  rw [ht] at hcn
  have HTT := Lib.hid ht
  clear x1 hc ht o1 hlen
  go_wp2
  go_quiet (fail)
  go_wp2
  go_ret2
  refine ⟨some ⟨g, 0, none⟩, c, ?_, X1.out.trans (Ext.drewN _ _), ?_⟩
  · rw [HN.out, Nat.add_sub_cancel, HTT.out]; rfl
  · rw [HN.out, Nat.add_sub_cancel]
    exact .inr ⟨_, rfl, fun i hi => HC.out i (by have := HK.out; omega)⟩
set_option maxHeartbeats 4000000 in
theorem c_spec_CountOutputs (s : ByteArray) (w : World) (hs : s.size ≤ 1048576) :
    Calls Tryd.prog 25 #[.string s] w (RetCo s w) := by
  by_cases hl : 16000 < s.size
  · obtain ⟨q1, q2, q3⟩ := coB_long hl
    have hlI : (16000 : Int) < (s.size : Int) := by omega
    have Q := Lib.hid (show RetCo s w = fun e w' => e = .returned (.tuple #[.int .i64 0, .int .i64 0, .bool false]) ∧ Ext w w' by unfold RetCo; rw [q1, q2, q3])
    rw [Q.out]
    clear q1 q2 q3 hl
    go_enter Tryd.func25, Tryd.ntmps25
    go_wp2
    go_ret3
    exact ⟨rfl, Ext.refl _⟩
  have hs16 : s.size ≤ 16000 := by omega
  have HS := Lib.hid hs
  have hlI : ¬ (16000 : Int) < (s.size : Int) := by omega
  have hp := pcs_pos 10 s
  have hpl := pcs_len 10 s
  obtain ⟨n, hn⟩ : ∃ n, (pcs 10 s).length = n + 1 := ⟨(pcs 10 s).length - 1, by omega⟩
  have HN := Lib.hid hn
  have hn1 : n ≤ 16000 := by omega
  obtain ⟨t, ht⟩ : ∃ t, getP (pcs 10 s) n = t := ⟨_, rfl⟩
  have HT := Lib.hid ht
  obtain ⟨le, hle⟩ : ∃ b, t.toList.isEmpty = b := ⟨_, rfl⟩
  cases le
  · obtain ⟨q1, q2, q3⟩ := coB_rest hs16 hn (by rw [ht]; exact hle)
    have Q := Lib.hid (show RetCo s w = fun e w' => e = .returned (.tuple #[.int .i64 0, .int .i64 0, .bool false]) ∧ Ext w w' by unfold RetCo; rw [q1, q2, q3])
    rw [Q.out]
    have hle2 : ¬ t.toList = [] := fun e => by rw [e] at hle; cases hle
    clear q1 q2 q3 hn hs16 ht hl hp hpl hs
    go_enter Tryd.func25, Tryd.ntmps25
    go_wp2_with fail
    refine (c_spec_l08Lines s _ HS.out).mono ?_; rintro e w1 ⟨a, c, rfl, x1, hc⟩
    rw [HN.out, Nat.add_sub_cancel, HT.out]
    have X1 := Lib.hid x1
    clear x1 hc
    go_wp2
    go_ret3
    exact ⟨rfl, X1.out⟩
  · obtain ⟨q1, q2, q3⟩ := coB_yes hs16 hn (by rw [ht]; exact hle)
    have hle2 : t.toList = [] := by simpa using hle
    obtain ⟨P, hPP⟩ : ∃ P, pcs 10 s = P := ⟨_, rfl⟩
    rw [hPP] at q2 q3
    have HPP := Lib.hid hPP
    have Q := Lib.hid (show RetCo s w = fun e w' => e = .returned (.tuple #[.int .i64 ((badN P n : Nat) : Int), .int .i64 ((n : Int) - (badN P n : Nat)), .bool true]) ∧ Ext w w' by unfold RetCo; rw [q1, q2, q3])
    rw [Q.out]
    clear q1 q2 q3 hn hs16 hPP ht hl hp hpl hs
    go_enter Tryd.func25, Tryd.ntmps25
    go_wp2_with fail
    refine (c_spec_l08Lines s _ HS.out).mono ?_; rintro e w1 ⟨a, c, rfl, x1, hc⟩
    rw [HN.out, Nat.add_sub_cancel] at hc
    rw [HN.out, Nat.add_sub_cancel, HT.out]
    have X1 := Lib.hid x1
    have HC := Lib.hid hc
    clear x1 hc
    go_wp2
    go_loopw [7, 8] (fun r i wr => ∃ k : Nat, k ≤ n ∧ i = .int .i64 (k : Int) ∧ r = .int .i64 ((badN P k : Nat) : Int) ∧ wr = w1) (fun _ i _ => n - (intOf i).toNat)
    case atStart => exact ⟨0, Nat.zero_le _, rfl, rfl, rfl⟩
    case round =>
      obtain ⟨k, hk, rfl, rfl, rfl⟩ := hrel
      have hbl := badN_le P k
      clear hle hle2
      by_cases hlt : k < n
      · have hltI : (k : Int) < (n : Int) := by omega
        rcases HC.out with h0 | ⟨g, rfl, hc⟩
        · omega
        have hck := hc k hlt
        rw [HPP.out] at hck
        have hst := badN_step P k
        obtain ⟨t, ht⟩ : ∃ t, getP P k = t := ⟨_, rfl⟩
        rw [ht] at hck hst
        obtain ⟨B, hB⟩ : ∃ B, badN P k = B := ⟨_, rfl⟩
        rw [hB] at hst hbl ⊢
        clear ht hB hc
        cases h1 : (t.toList == [110, 111])
        · have n1 : ¬ t.toList = [110, 111] := fun e => by rw [e] at h1; simp at h1
          cases h2 : (t.toList == [119, 104, 97, 116])
          · have n2 : ¬ t.toList = [119, 104, 97, 116] := fun e => by rw [e] at h2; simp at h2
            have HST := Lib.hid (show badN P (k + 1) = B by rw [hst]; unfold badB; rw [h1, h2]; rfl)
            clear hst
            go_wp2
            go_roundw
            case rel => exact ⟨k + 1, by omega, by go_num, by rw [HST.out], by first | rfl | trivial⟩
            case measure => simp [intOf]; omega
          · have HST := Lib.hid (show badN P (k + 1) = B + 1 by rw [hst]; unfold badB; rw [h1, h2]; rfl)
            clear hst
            go_wp2
            go_roundw
            case rel => exact ⟨k + 1, by omega, by go_num, by rw [HST.out]; go_num, by first | rfl | trivial⟩
            case measure => simp [intOf]; omega
        · have HST := Lib.hid (show badN P (k + 1) = B + 1 by rw [hst]; unfold badB; rw [h1]; rfl)
          have n1 : t.toList = [110, 111] := by simpa using h1
          clear hst
          go_wp2
          go_roundw
          case rel => exact ⟨k + 1, by omega, by go_num, by rw [HST.out]; go_num, by first | rfl | trivial⟩
          case measure => simp [intOf]; omega
      · obtain rfl : k = n := by omega
        go_wp2
        go_ret3
        exact ⟨rfl, X1.out⟩
theorem walk_FnExactCountOutputs (a0 : ByteArray) (w : World) (w0 : a0.size ≤ maxLen) (hT : MaxP w) :
    Calls Tryd.prog 6 #[.string a0] w fun e w' => e = .returned (.bool true) ∧ Below w.heap.size w w' := by
  have HT := Lib.hid hT
  clear hT
  unfold maxLen at w0
  by_cases hl : 1048576 < a0.size
  · go_enter Tryd.func6, Tryd.ntmps6
    go_wp2
    go_ret
    exact ⟨rfl, Below.refl _ _⟩
  · have hs : a0.size ≤ 1048576 := by omega
    obtain ⟨x, hx⟩ : ∃ v, coA a0 = v := ⟨_, rfl⟩
    obtain ⟨y, hy⟩ : ∃ v, coC a0 = v := ⟨_, rfl⟩
    obtain ⟨b, hb⟩ : ∃ b, coB a0 = b := ⟨_, rfl⟩
    have HX := Lib.hid hx
    have HY := Lib.hid hy
    have HB := Lib.hid hb
    clear hx hy hb
    go_enter Tryd.func6, Tryd.ntmps6
    go_wp2_with fail
    refine (c_spec_CountOutputs a0 _ hs).mono ?_
    rintro e u1 ⟨rfl, x1⟩
    have X1 := Lib.hid x1
    clear x1
    rw [HX.out, HY.out, HB.out]
    go_wp2_with fail
    refine (c_impl_CountOutputs a0 _ hs (HT.out.on X1.out)).mono ?_
    rintro e u2 ⟨rfl, x2⟩
    have X2 := Lib.hid (X1.out.trans x2)
    clear x2
    rw [HX.out, HY.out, HB.out]
    go_wp2
    go_ret
    exact ⟨rfl, X2.out⟩
end Go.Proofs.YtgejfeedcphfkaaDoor
