/- MeansOfWindow by the program. -/
import Derived.Test.YtjnhflpoddpfnabMnr
namespace Go.Proofs.Ytjnhflpoddpfnab
open Go.ChangeShapes Go.WideShapes Go.ChangeAt Go.RowKit Go.Proofs.Ytjnhflpoddpfnab.Flo
set_option linter.unusedVariables false
set_option maxHeartbeats 2000000 in
theorem c_impl_MeansOfWindow (a : Option Addr) (n cap : Nat) (zs : List Nat) (long : Int) (w : World) {rz : List Nat} {rb : Bool} (hv : mnR zs long = (rz, rb)) (hm : n ≤ 1048576) (h : Reads w a n (flos zs)) (hb : ∀ z ∈ zs, z < 4294967296) (hnc : n ≤ cap) :
    Calls Try.prog 25 #[.slice a n cap, .int .i64 long] w (RetSB 40 rz.length (flos rz) rb w) := by
  have hz := h.flo.1
  have H := Lib.hid h
  have HM := Lib.hid hm
  have HBT := Lib.hid hb
  clear hb
  cases h1 : stB zs
  · rw [mnR_no (by unfold mnB; rw [h1]; rfl)] at hv
    cases hv
    have H1 := Lib.hid h1
    clear h1 h hm hz
    go_enter Try.func25, Try.ntmps25
    go_wp2_with fail
    refine (c_impl_isStream _ _ _ zs _ H1.out HM.out H.out HBT.out).mono ?_; rintro e w1 ⟨rfl, q, rfl⟩
    go_wp2
    go_ret2
    exact ⟨none, 0, rfl, Own.nil _ _ _ _, Ext.drewN _ _⟩
  cases h2 : inB 1 long 128
  · rw [mnR_no (by unfold mnB; rw [h2]; simp)] at hv
    cases hv
    have H1 := Lib.hid h1
    have H2 := Lib.hid h2
    clear h1 h2 h hm hz
    go_enter Try.func25, Try.ntmps25
    go_wp2_with fail
    refine (c_impl_isStream _ _ _ zs _ H1.out HM.out H.out HBT.out).mono ?_; rintro e w1 ⟨rfl, q, rfl⟩
    go_wp2_with fail
    refine (c_impl_isStreamSize _ _ H2.out).mono ?_; rintro e w' ⟨rfl, rfl⟩
    go_wp2
    go_ret2
    exact ⟨none, 0, rfl, Own.nil _ _ _ _, Ext.drewN _ _⟩
  · have HMB := Lib.hid (show mnB zs long = true by unfold mnB; rw [h1, h2]; rfl)
    have ok := mnB_ok HMB.out
    have b1 := ok.1.lo
    have b2 := ok.1.hi
    have b3 := ok.2.1
    have b4 := ok.2.2
    rw [hz] at b1 b2
    have HV := Lib.hid hv
    obtain ⟨L, hL⟩ : ∃ L : Nat, long.toNat = L := ⟨_, rfl⟩
    obtain rfl : long = (L : Int) := by omega
    obtain ⟨b, off, rfl⟩ : ∃ b off, a = some ⟨b, off, none⟩ := by
      rcases h.2 with h0 | ⟨b', off', rfl, _⟩
      · omega
      · exact ⟨_, _, rfl⟩
    have H1 := Lib.hid h1
    have H2 := Lib.hid h2
    have HZ := Lib.hid hz
    clear h1 h2 h hm hz hL ok hv
    go_enter Try.func25, Try.ntmps25
    go_wp2_with fail
    refine (c_impl_isStream _ _ _ zs _ H1.out HM.out H.out HBT.out).mono ?_; rintro e w1 ⟨rfl, q, rfl⟩
    go_wp2_with fail
    refine (c_impl_isStreamSize _ _ H2.out).mono ?_; rintro e w' ⟨rfl, rfl⟩
    go_wp2_with fail
    refine (c_tellLast_mean b off n cap L zs _ b1 b2 hnc (by omega) (by omega) (H.out.on (Ext.drewN _ _))).mono ?_; rintro e u2 ⟨F, a2, c2, rfl, o2, hF, x2⟩
    have O2 := Lib.hid o2
    have X2 := Lib.hid ((Ext.drewN w q).trans x2)
    have HF := Lib.hid hF
    clear o2 x2 hF
    rcases mn_end HZ.out HMB.out (B := F) (fun j hj => by rw [show ((L : Int)).toNat = L from by omega]; exact (HF.out j hj).1) with ⟨e1, e2⟩ | ⟨e1, e2⟩
    · have E1 := Lib.hid e1
      have hv := HV.out
      rw [e2] at hv
      cases hv
      clear e1 e2
      go_wp2_with fail
      refine (c_impl_streamIf_yes _ _ _ (bitsOfN F n) _ E1.out (by unfold maxLen; omega) (bitsOfN_lt fun j hj => (HF.out j hj).2) O2.out.reads).mono ?_; rintro e u3 ⟨rfl, q3, rfl⟩
      go_wp2
      go_ret2
      exact ⟨a2, c2, by rw [bitsOfN_length]; rfl, by rw [bitsOfN_length]; exact (O2.out.on (Ext.drewN _ _)).wide (by simp [World.drewN]) (Nat.le_refl _), X2.out.trans (Ext.drewN _ _)⟩
    · have E1 := Lib.hid e1
      have hv := HV.out
      rw [e2] at hv
      cases hv
      clear e1 e2
      go_wp2_with fail
      refine (c_impl_streamIf_no _ _ _ (bitsOfN F n) _ E1.out (by unfold maxLen; omega) (bitsOfN_lt fun j hj => (HF.out j hj).2) O2.out.reads).mono ?_; rintro e u3 ⟨rfl, q3, rfl⟩
      go_wp2
      go_ret2
      exact ⟨none, 0, rfl, Own.nil _ _ _ _, X2.out.trans (Ext.drewN _ _)⟩
end Go.Proofs.Ytjnhflpoddpfnab
