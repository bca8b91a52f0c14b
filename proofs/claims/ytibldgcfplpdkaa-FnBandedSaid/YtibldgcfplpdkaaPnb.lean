/- Lists as long as one another: by the program, at []bool. -/
import Derived.Test.YtibldgcfplpdkaaBpa
import Derived.Test.YtibldgcfplpdkaaAll
import Derived.Deep.RegionWith
namespace Go.Proofs.Ytibldgcfplpdkaa
open Go.ChangeShapes Go.WideShapes Go.ChangeAt Go.RowKit
set_option linter.unusedVariables false
def bitsB (xs : List Bool) : Bool := decide (1 ≤ xs.length) && decide (xs.length ≤ 32)
theorem bitsB_lo {xs : List Bool} (h : ¬ 1 ≤ xs.length) : bitsB xs = false := by unfold bitsB; rw [decide_eq_false h]; rfl
theorem bitsB_hi {xs : List Bool} (h : ¬ xs.length ≤ 32) : bitsB xs = false := by unfold bitsB; rw [decide_eq_false h]; simp
theorem bitsB_yes {xs : List Bool} (h : 1 ≤ xs.length) (h2 : xs.length ≤ 32) : bitsB xs = true := by unfold bitsB; rw [decide_eq_true h, decide_eq_true h2]; rfl
theorem bitsB_is {xs : List Bool} (h : bitsB xs = true) : 1 ≤ xs.length ∧ xs.length ≤ 32 := by unfold bitsB at h; simpa using h
def ptb (zss : List (List Bool)) (i : Nat) : Bool := bitsB (rowS zss i) && decide ((rowS zss i).length = (rowS zss 0).length)
def ptsb (zss : List (List Bool)) : Bool := decide (1 ≤ zss.length) && (decide (zss.length ≤ 32) && allTo zss.length (ptb zss))
theorem ptsb_lo {zss : List (List Bool)} (h : ¬ 1 ≤ zss.length) : ptsb zss = false := by unfold ptsb; rw [decide_eq_false h]; rfl
theorem ptsb_hi {zss : List (List Bool)} (h : ¬ zss.length ≤ 32) : ptsb zss = false := by unfold ptsb; rw [decide_eq_false h]; simp
theorem ptsb_all {zss : List (List Bool)} (h : 1 ≤ zss.length) (h2 : zss.length ≤ 32) : ptsb zss = allTo zss.length (ptb zss) := by unfold ptsb; rw [decide_eq_true h, decide_eq_true h2]; rfl
theorem ptsb_is {zss : List (List Bool)} (h : ptsb zss = true) : 1 ≤ zss.length ∧ zss.length ≤ 32 ∧ ∀ i, i < zss.length → bitsB (rowS zss i) = true ∧ (rowS zss i).length = (rowS zss 0).length := by
  unfold ptsb at h
  simp only [Bool.and_eq_true, decide_eq_true_eq] at h
  refine ⟨h.1, h.2.1, fun i hi => ?_⟩
  have := allTo_at h.2.2 hi
  unfold ptb at this
  simpa using this
theorem c_areBits_p (a : Option Addr) (n cap : Nat) (xs : List Bool) (w : World) {r : Bool} (hr : bitsB xs = r) (hz : (bools xs).length = n) :
    Calls Try.prog 115 #[.slice a n cap] w fun e w' => e = .returned (.bool r) ∧ Ext w w' := by
  rw [bools_length] at hz
  subst hz
  by_cases h1 : 1 ≤ xs.length
  case neg =>
    have HR := Lib.hid (show r = false by rw [← hr]; exact bitsB_lo h1)
    have h1' : (xs.length : Int) < 1 := by omega
    clear hr h1
    go_enter Try.func115, Try.ntmps115
    go_wp2
    go_ret
    exact ⟨by rw [HR.out]; rfl, Ext.refl _⟩
  have h1' : (1 : Int) ≤ (xs.length : Int) := by omega
  by_cases h2 : xs.length ≤ 32
  case neg =>
    have HR := Lib.hid (show r = false by rw [← hr]; exact bitsB_hi h2)
    have h2' : 32 < (xs.length : Int) := by omega
    have h2'' : ¬ (xs.length : Int) ≤ 32 := by omega
    clear hr h1 h2
    go_enter Try.func115, Try.ntmps115
    go_wp2
    go_ret
    exact ⟨by rw [HR.out]; rfl, Ext.refl _⟩
  have h2' : (xs.length : Int) ≤ 32 := by omega
  have HR := Lib.hid (show r = true by rw [← hr]; exact bitsB_yes h1 h2)
  clear hr h1 h2
  go_enter Try.func115, Try.ntmps115
  go_wp2
  go_ret
  exact ⟨by rw [HR.out]; rfl, Ext.refl _⟩
set_option maxHeartbeats 2000000 in
theorem c_pt1b (gf gl : Nat) (a : Option Addr) (n cap : Nat) (xs : List Bool) (b off hn hcap : Nat) (a0 : Option Addr) (l0 c0 : Nat) (w : World) {r : Bool} (hr : (bitsB xs && decide (n = l0)) = r) (hm : n ≤ 1048576) (h : Reads w a n (bools xs)) (hf : w.cell? ⟨gf, 0, none⟩ = some (.func (.func 115) #[] #[])) (hl : w.cell? ⟨gl, 0, none⟩ = some (.slice (some ⟨b, off, none⟩) hn hcap)) (h0 : w.cell? ⟨b, off, none⟩ = some (.slice a0 l0 c0)) (hpos : 0 < hn) :
    Calls Try.prog 219 #[.slice a n cap, .pointer (some ⟨gf, 0, none⟩), .pointer (some ⟨gl, 0, none⟩)] w fun e w' => e = .returned (.bool r) ∧ Ext w w' := by
  have H := Lib.hid h
  have HM := Lib.hid hm
  have HL := Lib.hid hl
  have H0 := Lib.hid h0
  have hposI : (0 : Int) < (hn : Int) := by omega
  cases hv : bitsB xs
  · have HR := Lib.hid hv
    have HRR := Lib.hid (show r = false by rw [← hr, hv]; rfl)
    clear hr hv h hl h0 hm
    go_enter Try.func219, Try.ntmps219
    go_wp2_with fail
    refine (c_areBits_p _ _ _ xs _ HR.out H.out.1).mono ?_; rintro e w1 ⟨rfl, x'⟩
    clear hf
    have X := Lib.hid x'
    clear x'
    go_wp2
    go_ret
    exact ⟨by rw [HRR.out]; rfl, X.out⟩
  · have HR := Lib.hid hv
    by_cases he : n = l0
    · subst he
      have HRR := Lib.hid (show r = true by rw [← hr, hv, decide_eq_true rfl]; rfl)
      have hee : ((n : Int) == (n : Int)) = true := by simp
      clear hr hv h hl h0 hm
      go_enter Try.func219, Try.ntmps219
      go_wp2_with fail
      refine (c_areBits_p _ _ _ xs _ HR.out H.out.1).mono ?_; rintro e w1 ⟨rfl, x'⟩
      clear hf
      have X := Lib.hid x'
      have k1 := X.out.some HL.out
      have k2 := X.out.some H0.out
      clear x'
      go_wp2
      go_ret
      exact ⟨by rw [HRR.out]; rfl, X.out⟩
    · have HRR := Lib.hid (show r = false by rw [← hr, decide_eq_false he]; simp)
      have hee : ((n : Int) == (l0 : Int)) = false := by simp; omega
      clear hr hv h hl h0 hm he
      go_enter Try.func219, Try.ntmps219
      go_wp2_with fail
      refine (c_areBits_p _ _ _ xs _ HR.out H.out.1).mono ?_; rintro e w1 ⟨rfl, x'⟩
      clear hf
      have X := Lib.hid x'
      have k1 := X.out.some HL.out
      have k2 := X.out.some H0.out
      clear x'
      go_wp2
      go_ret
      exact ⟨by rw [HRR.out]; rfl, X.out⟩
set_option maxHeartbeats 2000000 in
theorem c_allb (gf gl : Nat) (b off n cap : Nat) (hs : Nat → Hd) (zss : List (List Bool)) (w : World) {r : Bool} (hr : allTo zss.length (ptb zss) = r) (hl : n + totS zss n ≤ 1048576) (h : ReadsS bools w (some ⟨b, off, none⟩) n hs zss) (hf : w.cell? ⟨gf, 0, none⟩ = some (.func (.func 115) #[] #[])) (hg : w.cell? ⟨gl, 0, none⟩ = some (.slice (some ⟨b, off, none⟩) n cap)) (hpos : 0 < n) :
    Calls Try.prog 218 #[.slice (some ⟨b, off, none⟩) n cap, .func (.func 219) #[] #[.pointer (some ⟨gf, 0, none⟩), .pointer (some ⟨gl, 0, none⟩)]] w fun e w' => e = .returned (.bool r) ∧ Ext w w' := by
  have hz := h.len
  subst hz
  have HRR := Lib.hid hr
  have H := Lib.hid h
  have HF := Lib.hid hf
  have HG := Lib.hid hg
  have HTL := Lib.hid (show ∀ k, k < zss.length → (rowS zss k).length ≤ 1048576 from fun k hk => by have := totS_row zss hk; omega)
  have HC := Lib.hid (show ∀ i, i < zss.length → w.cell? ⟨b, off + i, none⟩ = some (.slice (hs i).a (rowS zss i).length (hs i).c) from fun i hi => by
    rcases h.cells with h0 | ⟨b', off', he, hc⟩
    · omega
    · cases he; exact hc i hi)
  have hnI : (zss.length : Int) ≤ 1048576 := by omega
  obtain ⟨n, hn⟩ : ∃ n, zss.length = n := ⟨_, rfl⟩
  rw [hn] at HC HTL HRR hnI hpos HG ⊢
  have HN := Lib.hid hn
  clear hr h hf hg hl hn
  go_enter Try.func218, Try.ntmps218
  go_wp2
  go_loopw [9] (fun i wr => ∃ k : Nat, k ≤ n ∧ i = .int .i64 k ∧ Ext w wr ∧ ∀ j, j < k → ptb zss j = true) (fun i _ => n - (intOf i).toNat)
  case atStart => exact ⟨0, Nat.zero_le _, rfl, Ext.refl _, fun j hj => absurd hj (Nat.not_lt_zero _)⟩
  case round =>
    obtain ⟨k, hk, rfl, hx, hall⟩ := hrel
    have HX := Lib.hid hx
    have HA := Lib.hid hall
    clear hx hall
    by_cases hlt : k < n
    · have hltI : (k : Int) < (n : Int) := by omega
      have cz := HX.out.some (HC.out k hlt)
      obtain ⟨d, hd⟩ : ∃ d, (rowS zss k).length = d := ⟨_, rfl⟩
      have HDD := Lib.hid hd
      have HRD := Lib.hid (show Reads wr (hs k).a d (bools (rowS zss k)) by have h1 := (H.out.r k (by rw [HN.out]; exact hlt)).on HX.out; rwa [hd] at h1)
      have HDM := Lib.hid (show d ≤ 1048576 by rw [← hd]; exact HTL.out k hlt)
      rw [hd] at cz
      clear hd
      obtain ⟨q, hq⟩ : ∃ q, ptb zss k = q := ⟨_, rfl⟩
      have HQ := Lib.hid (show (bitsB (rowS zss k) && decide (d = (rowS zss 0).length)) = q by rw [← hq, ← HDD.out]; rfl)
      have HQQ := Lib.hid hq
      clear hq
      cases q
      · have HF0 := Lib.hid (show r = false by rw [← HRR.out]; exact allTo_no hlt HQQ.out)
        go_wp2_with fail
        refine (c_pt1b gf gl _ _ _ (rowS zss k) b off _ _ _ _ _ _ HQ.out HDM.out HRD.out (HX.out.some HF.out) (HX.out.some HG.out) (HX.out.some (HC.out 0 hpos)) hpos).mono ?_; rintro e w1 ⟨rfl, x'⟩
        have X := Lib.hid (HX.out.trans x')
        clear x' cz
        go_wp2
        go_ret
        exact ⟨by rw [HF0.out]; rfl, X.out⟩
      · go_wp2_with fail
        refine (c_pt1b gf gl _ _ _ (rowS zss k) b off _ _ _ _ _ _ HQ.out HDM.out HRD.out (HX.out.some HF.out) (HX.out.some HG.out) (HX.out.some (HC.out 0 hpos)) hpos).mono ?_; rintro e w1 ⟨rfl, x'⟩
        have X := Lib.hid (HX.out.trans x')
        clear x' cz
        go_wp2
        go_roundw
        case rel => exact ⟨k + 1, by omega, by go_num, X.out, fun j hj => by
          by_cases e : j = k
          · subst e; exact HQQ.out
          · exact HA.out j (by omega)⟩
        case measure => simp [intOf]; omega
    · have hkn : k = n := by omega
      subst hkn
      have hlt' : ¬ (k : Int) < (k : Int) := by omega
      have HF0 := Lib.hid (show r = true by rw [← HRR.out]; exact allTo_yes HA.out)
      go_wp2
      go_ret
      exact ⟨by rw [HF0.out]; rfl, HX.out⟩
set_option maxHeartbeats 2000000 in
theorem c_arePointsb (a : Option Addr) (n cap : Nat) (hs : Nat → Hd) (zss : List (List Bool)) (w : World) {r : Bool} (hr : ptsb zss = r) (hl : n + totS zss n ≤ 1048576) (h : ReadsS bools w a n hs zss) :
    Calls Try.prog 114 #[.slice a n cap, .func (.func 115) #[] #[]] w fun e w' => e = .returned (.bool r) ∧ Ext w w' := by
  have hz := h.len
  subst hz
  have X0 := Lib.hid (show Ext w ((w.alloc (.cells #[.slice a zss.length cap] 43)).alloc (.cells #[.func (.func 115) #[] #[]] 131)) by (repeat (first | assumption | exact Ext.refl _ | (with_reducible refine Ext.stepS ?_ (by first | exact Nat.le_refl _ | (simp; done) | (simp; omega)) _) | (with_reducible refine Ext.stepN ?_ _) | (with_reducible refine Ext.stepD ?_) | (with_reducible refine Ext.stepA ?_ _))))
  have BA := Lib.hid ((Box.alloc w #[.slice a zss.length cap] 43).past (.cells #[.func (.func 115) #[] #[]] 131))
  have BF := Lib.hid (Box.alloc_at (w.alloc (.cells #[.slice a zss.length cap] 43)) #[.func (.func 115) #[] #[]] 131 (b := w.heap.size + 1) (by simp))
  by_cases h1 : 1 ≤ zss.length
  case neg =>
    have HR := Lib.hid (show r = false by rw [← hr]; exact ptsb_lo h1)
    have h1' : (zss.length : Int) < 1 := by omega
    clear hr h1 h hl
    go_enter Try.func114, Try.ntmps114
    go_wp2
    go_ret
    exact ⟨by rw [HR.out]; rfl, X0.out⟩
  have h1' : (1 : Int) ≤ (zss.length : Int) := by omega
  by_cases h2 : zss.length ≤ 32
  case neg =>
    have HR := Lib.hid (show r = false by rw [← hr]; exact ptsb_hi h2)
    have h2' : 32 < (zss.length : Int) := by omega
    have h2'' : ¬ (zss.length : Int) ≤ 32 := by omega
    clear hr h1 h2 h hl
    go_enter Try.func114, Try.ntmps114
    go_wp2
    go_ret
    exact ⟨by rw [HR.out]; rfl, X0.out⟩
  have h2' : (zss.length : Int) ≤ 32 := by omega
  have HR := Lib.hid (show allTo zss.length (ptb zss) = r by rw [← hr]; exact (ptsb_all h1 h2).symm)
  obtain ⟨b, off, rfl⟩ : ∃ b off, a = some ⟨b, off, none⟩ := by
    rcases h.o.2 with h0 | ⟨b, off, h0, _⟩
    · omega
    · exact ⟨b, off, h0⟩
  have H := Lib.hid h
  have HL := Lib.hid hl
  have HP := Lib.hid (show 0 < zss.length by omega)
  clear hr h1 h2 h hl
  go_enter Try.func114, Try.ntmps114
  go_wp2_with fail
  refine (c_allb (w.heap.size + 1) w.heap.size b off _ cap hs zss _ HR.out HL.out (H.out.on X0.out) (BF.out.cell 0) (BA.out.cell 0) HP.out).mono ?_; rintro e w1 ⟨rfl, x'⟩
  have X := Lib.hid (X0.out.trans x')
  clear x'
  go_wp2
  go_ret
  exact ⟨rfl, X.out⟩
end Go.Proofs.Ytibldgcfplpdkaa
