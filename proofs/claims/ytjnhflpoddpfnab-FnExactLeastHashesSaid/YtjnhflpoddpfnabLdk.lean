/- LeastHashes by the other side. -/
import Derived.Test.YtjnhflpoddpfnabLdj
namespace Go.Proofs.Ytjnhflpoddpfnab
open Go.ChangeShapes Go.WideShapes Go.ChangeAt Go.RowKit
set_option linter.unusedVariables false
set_option maxHeartbeats 1000000 in
theorem c_spec_LeastHashes (a : Option Addr) (n cap : Nat) (zs : List Int) (salt room : Int) (w : World) {rz : List Int} {rb : Bool} (hv : lhR zs salt room = (rz, rb)) (hm : n ≤ 1048576) (h : Reads w a n (ints zs)) :
    Calls Try.prog 35 #[.slice a n cap, .int .i64 salt, .int .i64 room] w (RetSB 2 rz.length (ints rz) rb w) := by
  have H := Lib.hid h
  have hm' : n ≤ maxLen := by unfold maxLen; omega
  have HM := Lib.hid hm'
  clear h hm hm'
  cases hk : keysB zs
  · rw [lhR_no (by rw [hk]; rfl)] at hv
    cases hv
    have HK := Lib.hid hk
    clear hk
    go_enter Try.func35, Try.ntmps35
    go_wp2_with (go_at_call 76; refine (c_spec_l02Keys_k _ _ _ zs _ HK.out HM.out H.out).mono ?_; rintro e w' ⟨rfl, rfl⟩)
    go_ret2
    exact RetSB.nil _ _
  · cases hs : keyB salt
    · rw [lhR_no (by rw [hk, hs]; rfl)] at hv
      cases hv
      have HK := Lib.hid hk
      have HS := Lib.hid hs
      clear hk hs
      go_enter Try.func35, Try.ntmps35
      go_wp2_with (first | (go_at_call 76; refine (c_spec_l02Keys_k _ _ _ zs _ HK.out HM.out H.out).mono ?_; rintro e w' ⟨rfl, rfl⟩) | (go_at_call 63; refine (c_spec_l02Key_at salt _ HS.out).mono ?_; rintro e w' ⟨rfl, rfl⟩))
      go_ret2
      exact RetSB.nil _ _
    · cases hr : inB 1 room 256
      · rw [lhR_no (by rw [hk, hs, hr]; rfl)] at hv
        cases hv
        have HK := Lib.hid hk
        have HS := Lib.hid hs
        have HR := Lib.hid hr
        clear hk hs hr
        go_enter Try.func35, Try.ntmps35
        go_wp2_with (first | (go_at_call 76; refine (c_spec_l02Keys_k _ _ _ zs _ HK.out HM.out H.out).mono ?_; rintro e w' ⟨rfl, rfl⟩) | (go_at_call 63; refine (c_spec_l02Key_at salt _ HS.out).mono ?_; rintro e w' ⟨rfl, rfl⟩) | (go_at_call 77; refine (c_spec_l04Room room _ HR.out).mono ?_; rintro e w' ⟨rfl, rfl⟩))
        go_ret2
        exact RetSB.nil _ _
      · rw [lhR_yes (by rw [hk, hs, hr]; rfl)] at hv
        cases hv
        have hb := inB_is.1 hr
        have HB := Lib.hid hb
        have HL := Lib.hid (show (rowZ zs salt).length ≤ 1048576 by rw [rowZ_length]; have := keysB_len hk; omega)
        have HZ := Lib.hid (rowZ_length zs salt)
        have HK := Lib.hid hk
        have HS := Lib.hid hs
        have HR := Lib.hid hr
        clear hk hs hr hb
        go_enter Try.func35, Try.ntmps35
        go_wp2_with (first | (go_at_call 76; refine (c_spec_l02Keys_k _ _ _ zs _ HK.out HM.out H.out).mono ?_; rintro e w' ⟨rfl, rfl⟩) | (go_at_call 63; refine (c_spec_l02Key_at salt _ HS.out).mono ?_; rintro e w' ⟨rfl, rfl⟩) | (go_at_call 77; refine (c_spec_l04Room room _ HR.out).mono ?_; rintro e w' ⟨rfl, rfl⟩) | (go_at_call 79; refine (c_spec_l02Row _ _ _ zs _ _ HK.out HS.out H.out).mono ?_; rintro e w1 ⟨a', c', rfl, o', x'⟩; have O1 := Lib.hid o'; have X1 := Lib.hid x'; clear o' x') | (go_at_call 78; refine (c_spec_l04Least _ _ _ (rowZ zs salt) room _ (by have := HL.out; have := HZ.out; omega) HB.out.1 HB.out.2 O1.out.reads).mono ?_; rintro e w2 ⟨a2, c2, rfl, o2, x2⟩; have O2 := Lib.hid o2; have X2 := Lib.hid x2; clear o2 x2))
        go_ret2
        exact ⟨_, _, rfl, O2.out.wide X1.out.size (Nat.le_refl _), X1.out.trans X2.out⟩
end Go.Proofs.Ytjnhflpoddpfnab
