/- BandPairs: an equal band, by the program. -/
import Derived.Test.YtibldgcfplpdkaaBpb
import Derived.Test.YtibldgcfplpdkaaPrs
import Derived.BigQuiet
import Derived.Deep.DeepCutAuto
import Derived.Outline
namespace Go.Proofs.Ytibldgcfplpdkaa
open Go.ChangeShapes Go.WideShapes Go.ChangeAt Go.RowKit
set_option linter.unusedVariables false
set_option maxHeartbeats 2000000 in
theorem c_haveEqualBand (ab ao : Nat) (n cap : Nat) (bb bo cap' wide q : Nat) (xs ys : List Bool) (w : World) {r : Bool} (hr : bandB xs ys wide q = r) (hq : n = q * wide) (hw : 1 ≤ wide) (hww : wide ≤ 64) (hn : n ≤ 1048576) (hc : n ≤ cap) (hc' : n ≤ cap') (h : Reads w (some ⟨ab, ao, none⟩) n (bools xs)) (h' : Reads w (some ⟨bb, bo, none⟩) n (bools ys)) :
    Calls Try.prog 119 #[.slice (some ⟨ab, ao, none⟩) n cap, .slice (some ⟨bb, bo, none⟩) n cap', .int .i64 wide] w fun e w' => e = .returned (.bool r) ∧ ∃ m, w' = w.drewN m := by
  have HR := Lib.hid hr
  have HX := Lib.hid h
  have HY := Lib.hid h'
  have HXL := Lib.hid h.bool.1
  have HYL := Lib.hid h'.bool.1
  have HQ := Lib.hid hq
  clear hr h h' hq
  go_enter Try.func119, Try.ntmps119
  go_wp2
  go_loopw [7] (fun i wr => ∃ j m : Nat, j ≤ q ∧ i = .int .i64 ((j * wide : Nat) : Int) ∧ wr = w.drewN m ∧ ∀ i, i < j → sameAt xs ys (i * wide) wide = false) (fun i _ => n - (intOf i).toNat)
  case atStart => exact ⟨0, 0, Nat.zero_le _, by rw [Nat.zero_mul]; rfl, rfl, fun i hi => absurd hi (Nat.not_lt_zero _)⟩
  case round =>
    obtain ⟨j, m, hj, rfl, hwr, hall⟩ := hrel
    have HA := Lib.hid hall
    have HWR := Lib.hid hwr
    clear hall hwr
    obtain ⟨f, hf⟩ : ∃ f, j * wide = f := ⟨_, rfl⟩
    have HF := Lib.hid hf
    rw [hf]
    by_cases hlt : j < q
    · have hfn : f + wide ≤ n := by
        have h1 := Nat.mul_le_mul_right wide (show j + 1 ≤ q from hlt)
        rw [Nat.succ_mul, hf] at h1
        rw [HQ.out]; exact h1
      have hfI : (f : Int) < (n : Int) := by omega
      clear hf
      obtain ⟨T, hT⟩ : ∃ T, f + wide = T := ⟨_, rfl⟩
      have HT := Lib.hid hT
      have HTI := Lib.hid (show (f : Int) + (wide : Int) = (T : Int) by omega)
      have t1 : f ≤ T := by omega
      have t7 : f < T := by omega
      have t2 : T ≤ n := by omega
      have t3 : T ≤ cap := by omega
      have t4 : T ≤ cap' := by omega
      have t5 : f < cap := by omega
      have t6 : f < cap' := by omega
      have HTF := Lib.hid (show T - f = wide by omega)
      obtain ⟨s, hs⟩ : ∃ s, sameAt xs ys f wide = s := ⟨_, rfl⟩
      have HS := Lib.hid hs
      have HSL := Lib.hid (show sameLB (cutB xs f wide) (cutB ys f wide) = s by rw [sameAt_cut (by rw [HXL.out]; exact hfn) (by rw [HYL.out]; exact hfn)]; exact hs)
      have HRX := Lib.hid (reads_cutB f wide HX.out hfn)
      have HRY := Lib.hid (reads_cutB f wide HY.out hfn)
      clear hT hs
      go_upto_region 5 with fail
      rw [HTI.out]
      have i1 : (f : Int) ≤ (T : Int) := by omega
      have i2 : (T : Int) ≤ (cap : Int) := by omega
      have i3 : (T : Int) ≤ (cap' : Int) := by omega
      have i4 : (0 : Int) ≤ (f : Int) := by omega
      have n1 : ¬ cap = f := by omega
      have n2 : ¬ cap' = f := by omega
      have HRX2 := Lib.hid (show Reads wr (some ⟨ab, ao + f, none⟩) wide (bools (cutB xs f wide)) by rw [HWR.out]; exact HRX.out.on (Ext.drewN _ _))
      have HRY2 := Lib.hid (show Reads wr (some ⟨bb, bo + f, none⟩) wide (bools (cutB ys f wide)) by rw [HWR.out]; exact HRY.out.on (Ext.drewN _ _))
      cases s
      · go_quiet ((go_at_call 150; rw [HTF.out]; exact Calls.quiet_of (c_impl_sameBits _ _ wide _ _ (cutB xs f wide) (cutB ys f wide) _ HSL.out (by unfold maxLen; omega) (by omega) (by omega) (HRX2.out.on (Ext.drewN _ _)) (HRY2.out.on (Ext.drewN _ _)))))
        go_wp2_with fail
        rw [HTI.out]
        go_roundw
        case rel => exact ⟨j + 1, _, by omega, by rw [Nat.succ_mul, HF.out, HT.out], by rw [HWR.out, World.drewN_drewN], fun i hi => by
          by_cases e : i = j
          · subst e; rw [HF.out]; exact HS.out
          · exact HA.out i (by omega)⟩
        case measure => simp [intOf]; omega
      · have HB := Lib.hid (bandB_yes (xs := xs) (ys := ys) hlt (by rw [HF.out]; exact HS.out))
        go_quiet ((go_at_call 150; rw [HTF.out]; exact Calls.quiet_of (c_impl_sameBits _ _ wide _ _ (cutB xs f wide) (cutB ys f wide) _ HSL.out (by unfold maxLen; omega) (by omega) (by omega) (HRX2.out.on (Ext.drewN _ _)) (HRY2.out.on (Ext.drewN _ _)))))
        go_wp2
        go_ret
        exact ⟨by rw [← HR.out, HB.out]; rfl, _, by rw [HWR.out, World.drewN_drewN]⟩
    · have hjq : j = q := by omega
      subst hjq
      have HN := Lib.hid (bandB_no HA.out)
      have hfI : ¬ (f : Int) < (n : Int) := by have := HQ.out; omega
      clear hf
      go_wp2
      go_ret
      exact ⟨by rw [← HR.out, HN.out]; rfl, _, HWR.out⟩
end Go.Proofs.Ytibldgcfplpdkaa
