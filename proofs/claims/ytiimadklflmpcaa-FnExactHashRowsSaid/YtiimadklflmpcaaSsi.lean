/- Slices of slices: what the laws' helpers answer. -/
import Derived.Test.YtiimadklflmpcaaSsl
import Derived.Deep.LoopGhost
namespace Go.Proofs.Ytiimadklflmpcaa
open Go.ChangeShapes Go.WideShapes Go.ChangeAt Go.RowKit
set_option linter.unusedVariables false
theorem marks_len_I (s n : Nat) : (marks s n).length = n := by simp [marks]
theorem c_eqI_D (a a' : Option Addr) (len cap cap' : Nat) (zs : List Int) (w : World) (hm : len ≤ 1048576) (h : Reads w a len (ints zs)) (h' : Reads w a' len (ints zs)) :
    Calls Try.prog 19 #[.slice a len cap, .slice a' len cap'] w fun e w' => e = .returned (.bool true) ∧ ∃ q, w' = w.drewN q := c_eqI a a' len cap cap' zs w (by unfold maxLen; omega) h h'
set_option maxHeartbeats 1000000 in
theorem c_eqSI_E (a a' : Option Addr) (n cap cap' : Nat) (hs hs' : Nat → Hd) (zss : List (List Int)) (w : World) (hl : n + totS zss n ≤ 1048576) (h : ReadsS ints w a n hs zss) (h' : ReadsS ints w a' n hs' zss) :
    Calls Try.prog 18 #[.slice a n cap, .slice a' n cap'] w fun e w' => e = .returned (.bool true) ∧ Ext w w' := by
  have HC := Lib.hid h.cells
  have HC' := Lib.hid h'.cells
  have HRR := Lib.hid h.r
  have HRR' := Lib.hid h'.r
  have HTL := Lib.hid (show ∀ k, k < n → (rowS zss k).length ≤ 1048576 from fun k hk => by have := totS_row zss hk; omega)
  have hnI : (n : Int) ≤ 1048576 := by omega
  clear h h' hl
  go_enter Try.func18, Try.ntmps18
  go_wp2
  go_loopw [5] (fun i wr => ∃ k : Nat, k ≤ n ∧ i = .int .i64 k ∧ Ext w wr) (fun i _ => n - (intOf i).toNat)
  case atStart => exact ⟨0, Nat.zero_le _, rfl, Ext.refl _⟩
  case round =>
    obtain ⟨k, hk, rfl, hx⟩ := hrel
    have HX := Lib.hid hx
    clear hx
    by_cases hlt : k < n
    · have hltI : (k : Int) < (n : Int) := by omega
      rcases HC.out with h0 | ⟨b, off, rfl, hc⟩
      · omega
      rcases HC'.out with h0 | ⟨b', off', rfl, hc'⟩
      · omega
      have cz := HX.out.some (hc k hlt)
      have cz' := HX.out.some (hc' k hlt)
      clear hc hc'
      go_wp2
      go_quiet ((go_at_call 19; exact Calls.quiet_of (c_eqI_D _ _ _ _ _ (rowS zss k) _ (HTL.out k hlt) ((HRR.out k hlt).on (HX.out.trans (Ext.drewN _ _))) ((HRR'.out k hlt).on (HX.out.trans (Ext.drewN _ _))))))
      go_wp2
      go_roundw
      case rel => exact ⟨k + 1, by omega, by go_num, HX.out.trans (Ext.drewN _ _)⟩
      case measure => simp [intOf]; omega
    · obtain rfl : k = n := by omega
      have hlt' : ¬ (k : Int) < (k : Int) := by omega
      go_wp2
      go_ret
      exact ⟨rfl, HX.out⟩
set_option maxHeartbeats 1000000 in
theorem c_markSI (lo hi : Nat) (a : Option Addr) (n cap s : Nat) (hs : Nat → Hd) (zss : List (List Int)) (w : World) (hl : n + totS zss n ≤ 1048576) (hs1 : s ≤ 1000000000) (h : OwnS ints 22 2 w lo hi a n cap hs zss) (hh : hi ≤ w.heap.size) :
    Calls Try.prog 21 #[.slice a n cap, .int .i64 s] w (RetMarkS ints marks 22 2 lo hi a n cap hs zss s w) := by
  have hz := h.len
  have HTL := Lib.hid (show ∀ k, k < n → totS zss k + (rowS zss k).length ≤ 1048576 from fun k hk => by have := totS_row zss hk; omega)
  have hnI : (n : Int) ≤ 1048576 := by omega
  have HO := Lib.hid (show OwnS ints 22 2 w lo hi a n cap hs (midS marks s zss 0) by rw [midS_zero]; exact h)
  have HZ := Lib.hid hz
  clear h hl hz
  go_enter Try.func21, Try.ntmps21
  go_wp2
  go_loopw [1, 5] (fun x i wr => ∃ k : Nat, k ≤ n ∧ i = .int .i64 k ∧ x = .int .i64 ((s + totS zss k : Nat) : Int) ∧ OwnS ints 22 2 wr lo hi a n cap hs (midS marks s zss k) ∧ Touch lo hi w wr) (fun _ i _ => n - (intOf i).toNat)
  case atStart => exact ⟨0, Nat.zero_le _, rfl, rfl, HO.out, Touch.refl _ _ _⟩
  case round =>
    obtain ⟨k, hk, rfl, rfl, ho, ht⟩ := hrel
    have HQ := Lib.hid ho
    have HT := Lib.hid ht
    clear ho ht
    obtain ⟨q, hq⟩ : ∃ q, s + totS zss k = q := ⟨_, rfl⟩
    have HQQ := Lib.hid hq
    rw [hq]
    clear hq
    by_cases hlt : k < n
    · have hltI : (k : Int) < (n : Int) := by omega
      obtain ⟨b, off, rfl, cz⟩ := HQ.out.head_mid marks_len_I hlt
      obtain ⟨q2, hq2⟩ : ∃ q2, q + (rowS zss k).length = q2 := ⟨_, rfl⟩
      have HQ2 := Lib.hid hq2
      have hqb : q ≤ 1073741824 := by have := HTL.out k hlt; have := HQQ.out; omega
      have hlk : (rowS zss k).length ≤ 1048576 := by have := HTL.out k hlt; omega
      have q20 : (0 : Int) ≤ (q2 : Int) := by omega
      clear hq2
      go_wp2_with fail
      refine (c_markI_k lo hi _ _ _ q _ _ hlk hqb (HQ.out.at_mid hlt)).mono ?_; rintro e w2 ⟨he, o', t', k'⟩; rw [HQ2.out] at he; subst he
      have HN := Lib.hid (HQ.out.mark (mk := marks) marks_len_I hlt k' (by rw [HQQ.out]; exact o'))
      have HT2 := Lib.hid (HT.out.trans t')
      clear o' t' k'
      go_wp2
      go_roundw
      case rel => exact ⟨k + 1, by omega, by go_num, by rw [totS_succ, ← HQ2.out, ← HQQ.out, Nat.add_assoc], HN.out, HT2.out⟩
      case measure => simp [intOf]; omega
    · obtain rfl : k = n := by omega
      have hlt' : ¬ (k : Int) < (k : Int) := by omega
      go_wp2
      go_ret
      exact ⟨by rw [HZ.out, HQQ.out]; rfl, by have h1 := HQ.out; unfold markS; rw [HZ.out]; exact h1, HT.out⟩
set_option maxHeartbeats 1000000 in
theorem c_heldSI_E (a : Option Addr) (n cap s : Nat) (hs : Nat → Hd) (zss : List (List Int)) (w : World) (hl : n + totS zss n ≤ 1048576) (hs1 : s ≤ 1000000000) (h : ReadsS ints w a n hs (markS marks s zss)) :
    Calls Try.prog 22 #[.slice a n cap, .int .i64 s] w fun e w' => e = .returned (.int .i64 ((s + totS zss n : Nat) : Int)) ∧ Ext w w' := by
  have hz : zss.length = n := by have := h.len; unfold markS at this; rwa [midS_length] at this
  have HTL := Lib.hid (show ∀ k, k < n → totS zss k + (rowS zss k).length ≤ 1048576 from fun k hk => by have := totS_row zss hk; omega)
  have hnI : (n : Int) ≤ 1048576 := by omega
  have HC := Lib.hid h.cells
  have HLN := Lib.hid (show ∀ k, k < n → (rowS (markS marks s zss) k).length = (rowS zss k).length from fun k hk => midS_len marks_len_I s zss _ k (by omega))
  have HRR := Lib.hid (show ∀ k, k < n → Reads w (hs k).a (rowS zss k).length (ints (marks (s + totS zss k) (rowS zss k).length)) from fun k hk => by
    have h1 := h.r k hk
    unfold markS at h1
    rw [midS_lo marks s zss _ k (by omega) (by omega), marks_len_I] at h1
    exact h1)
  clear h hl hz
  go_enter Try.func22, Try.ntmps22
  go_wp2
  go_loopw [1, 5] (fun x i wr => ∃ k : Nat, k ≤ n ∧ i = .int .i64 k ∧ x = .int .i64 ((s + totS zss k : Nat) : Int) ∧ Ext w wr) (fun _ i _ => n - (intOf i).toNat)
  case atStart => exact ⟨0, Nat.zero_le _, rfl, rfl, Ext.refl _⟩
  case round =>
    obtain ⟨k, hk, rfl, rfl, hx⟩ := hrel
    have HX := Lib.hid hx
    clear hx
    obtain ⟨q, hq⟩ : ∃ q, s + totS zss k = q := ⟨_, rfl⟩
    have HQQ := Lib.hid hq
    rw [hq]
    clear hq
    by_cases hlt : k < n
    · have hltI : (k : Int) < (n : Int) := by omega
      rcases HC.out with h0 | ⟨b, off, rfl, hc⟩
      · omega
      have cz := HX.out.some (hc k hlt)
      rw [HLN.out k hlt] at cz
      obtain ⟨q2, hq2⟩ : ∃ q2, q + (rowS zss k).length = q2 := ⟨_, rfl⟩
      have HQ2 := Lib.hid hq2
      have hqb : q ≤ 1073741824 := by have := HTL.out k hlt; have := HQQ.out; omega
      have hlk : (rowS zss k).length ≤ 1048576 := by have := HTL.out k hlt; omega
      have q20 : (0 : Int) ≤ (q2 : Int) := by omega
      clear hq2 hc
      go_wp2_with fail
      refine (c_heldI_E _ _ _ q _ hlk hqb (by have h1 := (HRR.out k hlt).on HX.out; rw [HQQ.out] at h1; exact h1)).mono ?_; rintro e w2 ⟨he, x'⟩; rw [HQ2.out] at he; subst he
      have HX2 := Lib.hid (HX.out.trans x')
      clear x'
      go_wp2
      go_roundw
      case rel => exact ⟨k + 1, by omega, by go_num, by rw [totS_succ, ← HQ2.out, ← HQQ.out, Nat.add_assoc], HX2.out⟩
      case measure => simp [intOf]; omega
    · obtain rfl : k = n := by omega
      have hlt' : ¬ (k : Int) < (k : Int) := by omega
      go_wp2
      go_ret
      exact ⟨by have hqq := HQQ.out; first | (rw [hqq]; rfl) | (rw [show (s : Int) + (totS zss k : Int) = (q : Int) by omega]; rfl), HX.out⟩
end Go.Proofs.Ytiimadklflmpcaa
