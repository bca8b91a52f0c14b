/- SampleSeen by the program. -/
import Derived.Test.YtplngjbllllanaaSmb
namespace Go.Proofs.Ytplngjbllllanaa
open Go.ChangeShapes Go.WideShapes Go.ChangeAt Go.RowKit
set_option linter.unusedVariables false
theorem c_impl_SampleSeen (a : Option Addr) (n cap : Nat) (zs : List Int) (salt : Int) (w : World) {rz : List Int} {rb : Bool} (hv : seenR zs salt = (rz, rb)) (hm : n ≤ 1048576) (h : Reads w a n (ints zs)) :
    Calls Try.prog 43 #[.slice a n cap, .int .i64 salt] w (RetSB 2 rz.length (ints rz) rb w) := by
  have hz := h.int.1
  have H := Lib.hid h
  have HM := Lib.hid hm
  have BK := Lib.hid (Box.alloc w #[.slice a n cap] 40)
  have X0 := Lib.hid (Ext.alloc w (.cells #[.slice a n cap] 40))
  have bk := BK.out.cell 0
  cases hk : stB zs
  · rw [seenR_no (by rw [hk]; rfl)] at hv
    cases hv
    have HK := Lib.hid hk
    clear hk h hm
    go_enter Try.func43, Try.ntmps43
    go_wp2_with (go_at_call 95; refine (c_impl_areStreamKeys _ _ _ zs _ HK.out HM.out (H.out.on X0.out)).mono ?_; rintro e w' ⟨rfl, rfl⟩)
    go_ret2
    exact ⟨none, 0, rfl, Own.nil _ _ _ _, X0.out⟩
  cases hs : keyB salt
  · rw [seenR_no (by rw [hk, hs]; rfl)] at hv
    cases hv
    have HK := Lib.hid hk
    have HS := Lib.hid hs
    clear hk hs h hm
    go_enter Try.func43, Try.ntmps43
    go_wp2_with (first | (go_at_call 95; refine (c_impl_areStreamKeys _ _ _ zs _ HK.out HM.out (H.out.on X0.out)).mono ?_; rintro e w' ⟨rfl, rfl⟩) | (go_at_call 96; refine (c_impl_IsKey_at salt _ HS.out).mono ?_; rintro e w' ⟨rfl, rfl⟩))
    go_ret2
    exact ⟨none, 0, rfl, Own.nil _ _ _ _, X0.out⟩
  · rw [seenR_yes (by rw [hk, hs]; rfl)] at hv
    cases hv
    have hst : 1 ≤ n ∧ n ≤ 128 := by
      unfold stB at hk
      rw [Bool.and_eq_true, inB_is, hz] at hk
      omega
    obtain ⟨b, off, rfl⟩ : ∃ b off, a = some ⟨b, off, none⟩ := by
      rcases h.2 with h0 | ⟨b', off', rfl, _⟩
      · omega
      · exact ⟨_, _, rfl⟩
    rw [seenZ_length, hz]
    exact c_SampleSeen_yes b off n cap zs salt w hk hs hst.1 hst.2 h
end Go.Proofs.Ytplngjbllllanaa
