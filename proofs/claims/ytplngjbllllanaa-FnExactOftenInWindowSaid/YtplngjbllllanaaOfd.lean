/- OftenInWindow by the program. -/
import Derived.Test.YtplngjbllllanaaOfc
import Derived.Test.YtplngjbllllanaaLwx
namespace Go.Proofs.Ytplngjbllllanaa
open Go.ChangeShapes Go.WideShapes Go.ChangeAt Go.RowKit
set_option linter.unusedVariables false
set_option maxHeartbeats 2000000 in
theorem c_tellReadings_Oft (a : Option Addr) (n cap : Nat) (zs : List Int) (long : Int) (w : World) {rz : List Int} {rb : Bool} (hv : tellR oftI zs long = (rz, rb)) (hm : n ≤ 1048576) (h : Reads w a n (ints zs)) (hnc : n ≤ cap) :
    Calls Try.prog 90 #[.slice a n cap, .int .i64 long, .func (.func 91) #[] #[]] w (RetSB 2 rz.length (ints rz) rb w) := by
  have hz := h.int.1
  have H := Lib.hid h
  have HM := Lib.hid (show n ≤ maxLen by unfold maxLen; omega)
  cases h1 : inB 1 (n : Int) 128
  · rw [tellR_no (readB_1 (by rw [hz]; exact h1))] at hv
    cases hv
    have H1 := Lib.hid h1
    clear h1 h hm hz
    go_enter Try.func90, Try.ntmps90
    go_wp2_with fail
    refine (c_impl_isStreamSize_s _ _ H1.out).mono ?_; rintro e w' ⟨rfl, rfl⟩
    go_wp2
    go_ret2
    exact RetSB.nil _ _
  cases h2 : manyB 1000000 zs
  · rw [tellR_no (readB_2 h2)] at hv
    cases hv
    have H1 := Lib.hid h1
    have H2 := Lib.hid h2
    clear h1 h2 h hm hz
    go_enter Try.func90, Try.ntmps90
    go_wp2_with fail
    refine (c_impl_isStreamSize_s _ _ H1.out).mono ?_; rintro e w' ⟨rfl, rfl⟩
    go_wp2_with fail
    refine (c_areWithin_q _ _ _ zs 1000000 _ (by omega) (by omega) HM.out H2.out H.out).mono ?_; rintro e w' ⟨rfl, x'⟩
    have X := Lib.hid x'
    clear x'
    go_wp2
    go_ret2
    exact ⟨none, 0, rfl, Own.nil _ _ _ _, X.out⟩
  cases h3 : inB 1 long 128
  · rw [tellR_no (readB_3 h3)] at hv
    cases hv
    have H1 := Lib.hid h1
    have H2 := Lib.hid h2
    have H3 := Lib.hid h3
    clear h1 h2 h3 h hm hz
    go_enter Try.func90, Try.ntmps90
    go_wp2_with fail
    refine (c_impl_isStreamSize_s _ _ H1.out).mono ?_; rintro e w' ⟨rfl, rfl⟩
    go_wp2_with fail
    refine (c_areWithin_q _ _ _ zs 1000000 _ (by omega) (by omega) HM.out H2.out H.out).mono ?_; rintro e u1 ⟨rfl, x'⟩
    have X := Lib.hid x'
    clear x'
    go_wp2_with fail
    refine (c_impl_isStreamSize_s _ _ H3.out).mono ?_; rintro e w' ⟨rfl, rfl⟩
    go_wp2
    go_ret2
    exact ⟨none, 0, rfl, Own.nil _ _ _ _, X.out⟩
  · rw [tellR_yes (readB_y (by rw [hz]; exact h1) h2 h3)] at hv
    cases hv
    obtain ⟨b1, b2⟩ := inB_is.1 h1
    obtain ⟨b3, b4⟩ := inB_is.1 h3
    obtain ⟨L, hL⟩ : ∃ L : Nat, long.toNat = L := ⟨_, rfl⟩
    obtain rfl : long = (L : Int) := by omega
    rw [hL]
    obtain ⟨b, off, rfl⟩ : ∃ b off, a = some ⟨b, off, none⟩ := by
      rcases h.2 with h0 | ⟨b', off', rfl, _⟩
      · omega
      · exact ⟨_, _, rfl⟩
    have H1 := Lib.hid h1
    have H2 := Lib.hid h2
    have H3 := Lib.hid h3
    have HTL := Lib.hid (show (tellZ oftI zs L).length = n by rw [tellZ_length]; exact hz)
    have HMA := Lib.hid (many_of h2)
    clear h1 h2 h3 h hm hz hL
    go_enter Try.func90, Try.ntmps90
    go_wp2_with fail
    refine (c_impl_isStreamSize_s _ _ H1.out).mono ?_; rintro e w' ⟨rfl, rfl⟩
    go_wp2_with fail
    refine (c_areWithin_q _ _ _ zs 1000000 _ (by omega) (by omega) HM.out H2.out H.out).mono ?_; rintro e u1 ⟨rfl, x'⟩
    have X := Lib.hid x'
    clear x'
    go_wp2_with fail
    refine (c_impl_isStreamSize_s _ _ H3.out).mono ?_; rintro e w' ⟨rfl, rfl⟩
    go_wp2_with fail
    refine (c_tellLast_Oft b off n cap L zs _ (by omega) (by omega) hnc (by omega) (by omega) HMA.out (H.out.on X.out)).mono ?_; rintro e u2 ⟨a2, c2, rfl, o2, x2⟩
    have O2 := Lib.hid o2
    have X2 := Lib.hid (X.out.trans x2)
    have SZ := Lib.hid X.out.size
    clear o2 x2
    go_wp2
    go_ret2
    exact ⟨a2, c2, by first | (rw [HTL.out]; done) | (rw [HTL.out]; rfl), by rw [HTL.out]; exact O2.out.wide SZ.out (Nat.le_refl _), X2.out⟩
theorem c_impl_OftenInWindow (a : Option Addr) (n cap : Nat) (zs : List Int) (long : Int) (w : World) {rz : List Int} {rb : Bool} (hv : tellR oftI zs long = (rz, rb)) (hm : n ≤ 1048576) (h : Reads w a n (ints zs)) (hnc : n ≤ cap) :
    Calls Try.prog 38 #[.slice a n cap, .int .i64 long] w (RetSB 2 rz.length (ints rz) rb w) := by
  have H := Lib.hid h
  have HV := Lib.hid hv
  clear h hv
  go_enter Try.func38, Try.ntmps38
  go_wp2_with fail
  refine (c_tellReadings_Oft _ _ _ zs long _ HV.out hm H.out hnc).mono ?_; rintro e u1 ⟨a1, c1, rfl, o1, x1⟩
  have O1 := Lib.hid o1
  have X1 := Lib.hid x1
  clear o1 x1
  go_wp2
  go_ret2
  exact ⟨_, _, rfl, O1.out, X1.out⟩
end Go.Proofs.Ytplngjbllllanaa
