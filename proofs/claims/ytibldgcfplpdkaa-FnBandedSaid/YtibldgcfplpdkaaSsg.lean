/- Slices of slices: what the laws' helpers answer. -/
import Derived.Test.YtibldgcfplpdkaaSsl
import Derived.Test.YtibldgcfplpdkaaFlw
import Derived.Deep.LoopGhost
namespace Go.Proofs.Ytibldgcfplpdkaa
open Go.ChangeShapes Go.WideShapes Go.ChangeAt Go.RowKit
set_option linter.unusedVariables false
theorem fmarks_len_G (s n : Nat) : (fmarks s n).length = n := by simp [fmarks]
set_option maxHeartbeats 1000000 in
theorem c_szSG_ok (a : Option Addr) (n cap l : Nat) (hs : Nat → Hd) (zss : List (List Nat)) (w : World) (h : n + totS zss n ≤ l) (hl : l ≤ 1048576) (hr : ReadsS flos w a n hs zss) :
    Calls Try.prog 177 #[.slice a n cap, .int .i64 l] w fun e w' => e = .returned (.int .i64 ((l - (n + totS zss n) : Nat) : Int)) ∧ Ext w w' := by
  have HC := Lib.hid hr.cells
  obtain ⟨m, hm⟩ : ∃ m : Nat, l - n = m := ⟨_, rfl⟩
  have HT := Lib.hid (show ∀ k, k < n → totS zss k + (rowS zss k).length ≤ m from fun k hk => by have := totS_row zss hk; omega)
  have HE := Lib.hid (show l - (n + totS zss n) = m - totS zss n by omega)
  have e1 : (l : Int) - (n : Int) = (m : Int) := by omega
  have e2 : (l : Int) ≤ 1048576 := by omega
  have e3 : (n : Int) ≤ (l : Int) := by omega
  have e4 : (m : Int) ≤ 1048576 := by omega
  have hmm : m ≤ 1048576 := by omega
  clear hr h hm
  go_enter Try.func177, Try.ntmps177
  go_wp2
  go_loopw [1, 5] (fun x i wr => ∃ (k r : Nat), k ≤ n ∧ i = .int .i64 k ∧ x = .int .i64 (r : Int) ∧ r = m - totS zss k ∧ Ext w wr) (fun _ i _ => n - (intOf i).toNat)
  case atStart => exact ⟨0, m, Nat.zero_le _, rfl, by first | rfl | (rw [← e1]; rfl), by simp [totS], Ext.refl _⟩
  case round =>
    obtain ⟨k, r, hk, rfl, rfl, hr, hx⟩ := hrel
    have HX := Lib.hid hx
    have HR := Lib.hid hr
    clear hx hr
    by_cases hlt : k < n
    · have hltI : (k : Int) < (n : Int) := by omega
      rcases HC.out with h0 | ⟨b, off, rfl, hc⟩
      · omega
      have cz := HX.out.some (hc k hlt)
      obtain ⟨d, hd⟩ : ∃ d, (rowS zss k).length = d := ⟨_, rfl⟩
      rw [hd] at cz
      have hdr : d ≤ r := by have := HT.out k hlt; have := HR.out; omega
      obtain ⟨r2, hr2⟩ : ∃ r2, r - d = r2 := ⟨_, rfl⟩
      have HR2 := Lib.hid hr2
      have HN := Lib.hid (show r2 = m - totS zss (k + 1) by rw [totS_succ, hd, ← hr2, HR.out]; omega)
      have r0 : (0 : Int) ≤ (r2 : Int) := by omega
      have hrm : r ≤ 1048576 := by have := HR.out; omega
      clear hc hd hr2
      go_wp2_with fail
      refine (c_szG_ok _ _ _ r _ hdr hrm).mono ?_; rw [HR2.out]; rintro e w2 ⟨rfl, rfl⟩
      go_wp2
      go_roundw
      case rel => exact ⟨k + 1, r2, by omega, by go_num, rfl, HN.out, HX.out⟩
      case measure => simp [intOf]; omega
    · obtain rfl : k = n := by omega
      have hlt' : ¬ (k : Int) < (k : Int) := by omega
      go_wp2
      go_ret
      exact ⟨by rw [HE.out, HR.out]; rfl, HX.out⟩
set_option maxHeartbeats 1000000 in
theorem c_szSG_no (a : Option Addr) (n cap l : Nat) (hs : Nat → Hd) (zss : List (List Nat)) (w : World) (h : l < n + totS zss n) (hl : l ≤ 1048576) (hn : n ≤ maxLen) (hmr : ∀ i, i < n → (rowS zss i).length ≤ maxLen) (hr : ReadsS flos w a n hs zss) :
    Calls Try.prog 177 #[.slice a n cap, .int .i64 l] w fun e w' => e = .returned (.int .i64 (-1)) ∧ Ext w w' := by
  by_cases hnl : l < n
  · unfold maxLen at hn
    have e1 : (l : Int) < (n : Int) := by omega
    have e2 : (l : Int) ≤ 1048576 := by omega
    clear hr h hmr
    go_enter Try.func177, Try.ntmps177
    go_wp2
    go_ret
    exact ⟨rfl, Ext.refl _⟩
  have HC := Lib.hid hr.cells
  have HMR := Lib.hid hmr
  obtain ⟨m, hm⟩ : ∃ m : Nat, l - n = m := ⟨_, rfl⟩
  have HT := Lib.hid (show m < totS zss n by omega)
  have e1 : (l : Int) - (n : Int) = (m : Int) := by omega
  have e2 : (l : Int) ≤ 1048576 := by omega
  have e3 : (n : Int) ≤ (l : Int) := by omega
  have e4 : (m : Int) ≤ 1048576 := by omega
  have hmm : m ≤ 1048576 := by omega
  clear hr h hm hmr hnl
  go_enter Try.func177, Try.ntmps177
  go_wp2
  go_loopw [1, 5] (fun x i wr => ∃ (k r : Nat), k ≤ n ∧ i = .int .i64 k ∧ x = .int .i64 (r : Int) ∧ r + totS zss k = m ∧ Ext w wr) (fun _ i _ => n - (intOf i).toNat)
  case atStart => exact ⟨0, m, Nat.zero_le _, rfl, by first | rfl | (rw [← e1]; rfl), rfl, Ext.refl _⟩
  case round =>
    obtain ⟨k, r, hk, rfl, rfl, hr, hx⟩ := hrel
    have HX := Lib.hid hx
    have HR := Lib.hid hr
    clear hx hr
    by_cases hlt : k < n
    · have hltI : (k : Int) < (n : Int) := by omega
      rcases HC.out with h0 | ⟨b, off, rfl, hc⟩
      · omega
      have cz := HX.out.some (hc k hlt)
      obtain ⟨d, hd⟩ : ∃ d, (rowS zss k).length = d := ⟨_, rfl⟩
      rw [hd] at cz
      have HDM := Lib.hid (show d ≤ maxLen by rw [← hd]; exact HMR.out k hlt)
      have hrm : r ≤ 1048576 := by have := HR.out; omega
      by_cases hdr : d ≤ r
      · obtain ⟨r2, hr2⟩ : ∃ r2, r - d = r2 := ⟨_, rfl⟩
        have HR2 := Lib.hid hr2
        have HN := Lib.hid (show r2 + totS zss (k + 1) = m by rw [totS_succ, hd, ← hr2]; have := HR.out; omega)
        have r0 : (0 : Int) ≤ (r2 : Int) := by omega
        clear hc hd hr2
        go_wp2_with fail
        refine (c_szG_ok _ _ _ r _ hdr hrm).mono ?_; rw [HR2.out]; rintro e w2 ⟨rfl, rfl⟩
        go_wp2
        go_roundw
        case rel => exact ⟨k + 1, r2, by omega, by go_num, rfl, HN.out, HX.out⟩
        case measure => simp [intOf]; omega
      · have hdr' : r < d := by omega
        clear hc hd hdr
        go_wp2_with fail
        refine (c_szG_no _ _ _ r _ hdr' hrm HDM.out).mono ?_; rintro e w2 ⟨rfl, rfl⟩
        go_wp2
        go_ret
        exact ⟨rfl, HX.out⟩
    · exfalso
      have hkn : k = n := by omega
      have := HT.out
      have := HR.out
      rw [hkn] at this
      omega
set_option maxHeartbeats 1000000 in
theorem c_toSG (a : Option Addr) (n cap : Nat) (hs : Nat → Hd) (zss : List (List Nat)) (w : World) (hl : n + totS zss n ≤ 1048576) (h : ReadsS flos w a n hs zss) :
    Calls Try.prog 182 #[.slice a n cap] w (RetSS flos 33 37 zss w) := by
  have hz := h.len
  have HC := Lib.hid h.cells
  have HRR := Lib.hid h.r
  have HZ := Lib.hid hz
  have HTL := Lib.hid (show ∀ k, k < n → (rowS zss k).length ≤ 1048576 from fun k hk => by have := totS_row zss hk; omega)
  have hmk := run_make_row' (P := Try.prog) 44 33 (.slice none 0 0) 24 Try.underlying44 (by kernel_rfl) rfl .i64 .i64 n (by omega) (by omega)
  have hnI : (n : Int) ≤ 1048576 := by omega
  have RM := Lib.hid (World.rowIs_made w (.slice none 0 0) n 33)
  clear h hz hl
  go_enter Try.func182, Try.ntmps182
  go_wp2
  go_loopw [4] (fun i wr => ∃ (k : Nat) (ks : Nat → Hd), k ≤ n ∧ i = .int .i64 k ∧ MadeS flos 33 37 wr w.heap.size n ks zss k ∧ Ext w wr) (fun i _ => n - (intOf i).toNat)
  case atStart => exact ⟨0, fun _ => ⟨none, 0⟩, Nat.zero_le _, rfl, MadeS.zero _ RM.out, Ext.alloc _ _⟩
  case round =>
    obtain ⟨k, ks, hk, rfl, hmd, hx⟩ := hrel
    have HM := Lib.hid hmd
    have HX := Lib.hid hx
    clear hmd hx
    by_cases hlt : k < n
    · have hltI : (k : Int) < (n : Int) := by omega
      rcases HC.out with h0 | ⟨b, off, rfl, hc⟩
      · omega
      have cz := HX.out.some (hc k hlt)
      clear hc
      go_wp2_with fail
      refine (c_toG _ _ _ (rowS zss k) _ (HTL.out k hlt) ((HRR.out k hlt).on HX.out)).mono ?_; rintro e w2 ⟨a', c', rfl, o', x'⟩
      have HN := Lib.hid (HM.out.next hlt x' o')
      have HX2 := Lib.hid (show Ext w (w2.setCell ⟨w.heap.size, k, none⟩ (.slice a' (rowS zss k).length c')) from Below.setCell (HX.out.trans x') (Nat.le_refl _) _)
      have hrow := HM.out.o.of_block (Below.block x' w.heap.size HM.out.o.lt)
      have hcur := hrow.cell hlt
      have hfro := hrow.frozen k
      clear o' x' hrow
      go_wp2
      go_roundw
      case rel => exact ⟨k + 1, _, by omega, by go_num, HN.out, HX2.out⟩
      case measure => simp [intOf]; omega
    · obtain rfl : k = n := by omega
      have hlt' : ¬ (k : Int) < (k : Int) := by omega
      go_wp2
      go_ret
      exact ⟨_, _, ks, by rw [HZ.out]; rfl, by rw [HZ.out]; exact HM.out.all HZ.out, HX.out⟩
theorem c_eqG_D (a a' : Option Addr) (len cap cap' : Nat) (zs : List Nat) (w : World) (hm : len ≤ 1048576) (h : Reads w a len (flos zs)) (h' : Reads w a' len (flos zs)) :
    Calls Try.prog 251 #[.slice a len cap, .slice a' len cap'] w fun e w' => e = .returned (.bool true) ∧ ∃ q, w' = w.drewN q := by
  obtain ⟨hz, hr⟩ := h.flo
  obtain ⟨_, hr'⟩ := h'.flo
  rcases hr with h0 | ⟨b, off, rfl, hc⟩
  · subst h0
    exact (c_eqG_nil a a' cap cap' w).mono (by rintro e w' ⟨rfl, rfl⟩; exact ⟨rfl, 0, rfl⟩)
  rcases hr' with h0 | ⟨b', off', rfl, hc'⟩
  · subst h0
    exact (c_eqG_nil _ a' cap cap' w).mono (by rintro e w' ⟨rfl, rfl⟩; exact ⟨rfl, 0, rfl⟩)
  exact c_eqG b off cap b' off' cap' len zs w (by unfold maxLen; omega) hc hc'
set_option maxHeartbeats 1000000 in
theorem c_eqSG_E (a a' : Option Addr) (n cap cap' : Nat) (hs hs' : Nat → Hd) (zss : List (List Nat)) (w : World) (hl : n + totS zss n ≤ 1048576) (h : ReadsS flos w a n hs zss) (h' : ReadsS flos w a' n hs' zss) :
    Calls Try.prog 183 #[.slice a n cap, .slice a' n cap'] w fun e w' => e = .returned (.bool true) ∧ Ext w w' := by
  have HC := Lib.hid h.cells
  have HC' := Lib.hid h'.cells
  have HRR := Lib.hid h.r
  have HRR' := Lib.hid h'.r
  have HTL := Lib.hid (show ∀ k, k < n → (rowS zss k).length ≤ 1048576 from fun k hk => by have := totS_row zss hk; omega)
  have hnI : (n : Int) ≤ 1048576 := by omega
  clear h h' hl
  go_enter Try.func183, Try.ntmps183
  go_wp2
  go_loopw [5] (fun i wr => ∃ k : Nat, k ≤ n ∧ i = .int .i64 k ∧ Ext w wr) (fun i _ => n - (intOf i).toNat)
  case atStart => exact ⟨0, Nat.zero_le _, rfl, Ext.refl _⟩
  case round =>
    obtain ⟨k, hk, rfl, hx⟩ := hrel
    have HX := Lib.hid hx
    clear hx
    by_cases hlt : k < n
    · have hltI : (k : Int) < (n : Int) := by omega
      rcases HC.out with h0 | ⟨b, off, rfl, hc⟩
      · omega
      rcases HC'.out with h0 | ⟨b', off', rfl, hc'⟩
      · omega
      have cz := HX.out.some (hc k hlt)
      have cz' := HX.out.some (hc' k hlt)
      clear hc hc'
      go_wp2
      go_quiet ((go_at_call 251; exact Calls.quiet_of (c_eqG_D _ _ _ _ _ (rowS zss k) _ (HTL.out k hlt) ((HRR.out k hlt).on (HX.out.trans (Ext.drewN _ _))) ((HRR'.out k hlt).on (HX.out.trans (Ext.drewN _ _))))))
      go_wp2
      go_roundw
      case rel => exact ⟨k + 1, by omega, by go_num, HX.out.trans (Ext.drewN _ _)⟩
      case measure => simp [intOf]; omega
    · obtain rfl : k = n := by omega
      have hlt' : ¬ (k : Int) < (k : Int) := by omega
      go_wp2
      go_ret
      exact ⟨rfl, HX.out⟩
set_option maxHeartbeats 1000000 in
theorem c_markSG (lo hi : Nat) (a : Option Addr) (n cap s : Nat) (hs : Nat → Hd) (zss : List (List Nat)) (w : World) (hl : n + totS zss n ≤ 1048576) (hs1 : s ≤ 1000000000) (h : OwnS flos 33 37 w lo hi a n cap hs zss) (hh : hi ≤ w.heap.size) :
    Calls Try.prog 184 #[.slice a n cap, .int .i64 s] w (RetMarkS flos fmarks 33 37 lo hi a n cap hs zss s w) := by
  have hz := h.len
  have HTL := Lib.hid (show ∀ k, k < n → totS zss k + (rowS zss k).length ≤ 1048576 from fun k hk => by have := totS_row zss hk; omega)
  have hnI : (n : Int) ≤ 1048576 := by omega
  have HO := Lib.hid (show OwnS flos 33 37 w lo hi a n cap hs (midS fmarks s zss 0) by rw [midS_zero]; exact h)
  have HZ := Lib.hid hz
  clear h hl hz
  go_enter Try.func184, Try.ntmps184
  go_wp2
  go_loopw [1, 5] (fun x i wr => ∃ k : Nat, k ≤ n ∧ i = .int .i64 k ∧ x = .int .i64 ((s + totS zss k : Nat) : Int) ∧ OwnS flos 33 37 wr lo hi a n cap hs (midS fmarks s zss k) ∧ Touch lo hi w wr) (fun _ i _ => n - (intOf i).toNat)
  case atStart => exact ⟨0, Nat.zero_le _, rfl, rfl, HO.out, Touch.refl _ _ _⟩
  case round =>
    obtain ⟨k, hk, rfl, rfl, ho, ht⟩ := hrel
    have HQ := Lib.hid ho
    have HT := Lib.hid ht
    clear ho ht
    obtain ⟨q, hq⟩ : ∃ q, s + totS zss k = q := ⟨_, rfl⟩
    have HQQ := Lib.hid hq
    rw [hq]
    clear hq
    by_cases hlt : k < n
    · have hltI : (k : Int) < (n : Int) := by omega
      obtain ⟨b, off, rfl, cz⟩ := HQ.out.head_mid fmarks_len_G hlt
      obtain ⟨q2, hq2⟩ : ∃ q2, q + (rowS zss k).length = q2 := ⟨_, rfl⟩
      have HQ2 := Lib.hid hq2
      have hqb : q ≤ 1073741824 := by have := HTL.out k hlt; have := HQQ.out; omega
      have hlk : (rowS zss k).length ≤ 1048576 := by have := HTL.out k hlt; omega
      have q20 : (0 : Int) ≤ (q2 : Int) := by omega
      clear hq2
      go_wp2_with fail
      refine (c_markG_k lo hi _ _ _ q _ _ hlk hqb (HQ.out.at_mid hlt)).mono ?_; rintro e w2 ⟨he, o', t', k'⟩; rw [HQ2.out] at he; subst he
      have HN := Lib.hid (HQ.out.mark (mk := fmarks) fmarks_len_G hlt k' (by rw [HQQ.out]; exact o'))
      have HT2 := Lib.hid (HT.out.trans t')
      clear o' t' k'
      go_wp2
      go_roundw
      case rel => exact ⟨k + 1, by omega, by go_num, by rw [totS_succ, ← HQ2.out, ← HQQ.out, Nat.add_assoc], HN.out, HT2.out⟩
      case measure => simp [intOf]; omega
    · obtain rfl : k = n := by omega
      have hlt' : ¬ (k : Int) < (k : Int) := by omega
      go_wp2
      go_ret
      exact ⟨by rw [HZ.out, HQQ.out]; rfl, by have h1 := HQ.out; unfold markS; rw [HZ.out]; exact h1, HT.out⟩
set_option maxHeartbeats 1000000 in
theorem c_heldSG_E (a : Option Addr) (n cap s : Nat) (hs : Nat → Hd) (zss : List (List Nat)) (w : World) (hl : n + totS zss n ≤ 1048576) (hs1 : s ≤ 1000000000) (h : ReadsS flos w a n hs (markS fmarks s zss)) :
    Calls Try.prog 185 #[.slice a n cap, .int .i64 s] w fun e w' => e = .returned (.int .i64 ((s + totS zss n : Nat) : Int)) ∧ Ext w w' := by
  have hz : zss.length = n := by have := h.len; unfold markS at this; rwa [midS_length] at this
  have HTL := Lib.hid (show ∀ k, k < n → totS zss k + (rowS zss k).length ≤ 1048576 from fun k hk => by have := totS_row zss hk; omega)
  have hnI : (n : Int) ≤ 1048576 := by omega
  have HC := Lib.hid h.cells
  have HLN := Lib.hid (show ∀ k, k < n → (rowS (markS fmarks s zss) k).length = (rowS zss k).length from fun k hk => midS_len fmarks_len_G s zss _ k (by omega))
  have HRR := Lib.hid (show ∀ k, k < n → Reads w (hs k).a (rowS zss k).length (flos (fmarks (s + totS zss k) (rowS zss k).length)) from fun k hk => by
    have h1 := h.r k hk
    unfold markS at h1
    rw [midS_lo fmarks s zss _ k (by omega) (by omega), fmarks_len_G] at h1
    exact h1)
  clear h hl hz
  go_enter Try.func185, Try.ntmps185
  go_wp2
  go_loopw [1, 5] (fun x i wr => ∃ k : Nat, k ≤ n ∧ i = .int .i64 k ∧ x = .int .i64 ((s + totS zss k : Nat) : Int) ∧ Ext w wr) (fun _ i _ => n - (intOf i).toNat)
  case atStart => exact ⟨0, Nat.zero_le _, rfl, rfl, Ext.refl _⟩
  case round =>
    obtain ⟨k, hk, rfl, rfl, hx⟩ := hrel
    have HX := Lib.hid hx
    clear hx
    obtain ⟨q, hq⟩ : ∃ q, s + totS zss k = q := ⟨_, rfl⟩
    have HQQ := Lib.hid hq
    rw [hq]
    clear hq
    by_cases hlt : k < n
    · have hltI : (k : Int) < (n : Int) := by omega
      rcases HC.out with h0 | ⟨b, off, rfl, hc⟩
      · omega
      have cz := HX.out.some (hc k hlt)
      rw [HLN.out k hlt] at cz
      obtain ⟨q2, hq2⟩ : ∃ q2, q + (rowS zss k).length = q2 := ⟨_, rfl⟩
      have HQ2 := Lib.hid hq2
      have hqb : q ≤ 1073741824 := by have := HTL.out k hlt; have := HQQ.out; omega
      have hlk : (rowS zss k).length ≤ 1048576 := by have := HTL.out k hlt; omega
      have q20 : (0 : Int) ≤ (q2 : Int) := by omega
      clear hq2 hc
      go_wp2_with fail
      refine (c_heldG_E _ _ _ q _ hlk hqb (by have h1 := (HRR.out k hlt).on HX.out; rw [HQQ.out] at h1; exact h1)).mono ?_; rintro e w2 ⟨he, x'⟩; rw [HQ2.out] at he; subst he
      have HX2 := Lib.hid (HX.out.trans x')
      clear x'
      go_wp2
      go_roundw
      case rel => exact ⟨k + 1, by omega, by go_num, by rw [totS_succ, ← HQ2.out, ← HQQ.out, Nat.add_assoc], HX2.out⟩
      case measure => simp [intOf]; omega
    · obtain rfl : k = n := by omega
      have hlt' : ¬ (k : Int) < (k : Int) := by omega
      go_wp2
      go_ret
      exact ⟨by have hqq := HQQ.out; first | (rw [hqq]; rfl) | (rw [show (s : Int) + (totS zss k : Int) = (q : Int) by omega]; rfl), HX.out⟩
end Go.Proofs.Ytibldgcfplpdkaa
