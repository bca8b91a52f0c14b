/- InPeeled: the program's side. -/
import Derived.Test.YtfolflkbpdbkcaaPef
namespace Go.Proofs.Ytfolflkbpdbkcaa
open Go.ChangeShapes Go.WideShapes Go.ChangeAt Go.RowKit
set_option linter.unusedVariables false
set_option maxHeartbeats 1000000 in
theorem c_impl_InPeeled (a : Option Addr) (n cap : Nat) (zs : List Int) (key S : Int) (w : World) {v b : Bool} (hv : inPeelR zs key S = (v, b)) (hm : n ≤ maxLen) (h : Reads w a n (ints zs)) :
    Calls Try.prog 47 #[.slice a n cap, .int .i64 key, .int .i64 S] w fun e w' => e = .returned (.tuple #[.bool v, .bool b]) ∧ Ext w w' := by
  have hn := h.int.1
  subst hn
  have H := Lib.hid h
  have HM := Lib.hid hm
  clear h hm
  cases hc : peelB zs
  · rw [inPeelR_1 hc] at hv
    simp only [Prod.mk.injEq] at hv
    obtain ⟨rfl, rfl⟩ := hv
    have HC := Lib.hid hc
    clear hc
    go_enter Try.func47, Try.ntmps47
    go_wp2_with (go_at_call 77; refine (c_impl_arePeeled a zs.length cap zs _ HC.out HM.out H.out).mono ?_; rintro e w' ⟨rfl, rfl⟩)
    go_ret2
    exact ⟨rfl, Ext.refl _⟩
  cases hk : keyB key
  · rw [inPeelR_2 hk] at hv
    simp only [Prod.mk.injEq] at hv
    obtain ⟨rfl, rfl⟩ := hv
    have HC := Lib.hid hc
    have HK := Lib.hid hk
    clear hc hk
    go_enter Try.func47, Try.ntmps47
    go_wp2_with (first | (go_at_call 77; refine (c_impl_arePeeled a zs.length cap zs _ HC.out HM.out H.out).mono ?_; rintro e w' ⟨rfl, rfl⟩) | (go_at_call 63; refine (c_impl_IsKey_q key _ HK.out).mono ?_; rintro e w' ⟨rfl, rfl⟩))
    go_ret2
    exact ⟨rfl, Ext.refl _⟩
  cases hs : keyB S
  · rw [inPeelR_3 hs] at hv
    simp only [Prod.mk.injEq] at hv
    obtain ⟨rfl, rfl⟩ := hv
    have HC := Lib.hid hc
    have HK := Lib.hid hk
    have HS := Lib.hid hs
    clear hc hk hs
    go_enter Try.func47, Try.ntmps47
    go_wp2_with fail
    refine (c_impl_arePeeled a zs.length cap zs _ HC.out HM.out H.out).mono ?_; rintro e w' ⟨rfl, rfl⟩
    go_wp2_with fail
    refine (c_impl_IsKey_q key _ HK.out).mono ?_; rintro e w' ⟨rfl, rfl⟩
    go_wp2_with fail
    refine (c_impl_IsKey_q S _ HS.out).mono ?_; rintro e w' ⟨rfl, rfl⟩
    go_wp2
    go_ret2
    exact ⟨rfl, Ext.refl _⟩
  obtain ⟨m, hl, hm1, hm2, hu⟩ := peel_ok hc
  obtain ⟨t, ht⟩ : ∃ t, toldN zs m S key = t := ⟨_, rfl⟩
  obtain ⟨y, hy⟩ : ∃ y, belowN key (saltZ S 3) 255 + 1 = y := ⟨_, rfl⟩
  rw [inPeelR_y hc hk hs hl ht hy] at hv
  simp only [Prod.mk.injEq] at hv
  obtain ⟨hv, rfl⟩ := hv
  have HV := Lib.hid hv
  have HC := Lib.hid hc
  have HK := Lib.hid hk
  have HS := Lib.hid hs
  have HL := Lib.hid hl
  have HU := Lib.hid hu
  have HT := Lib.hid ht
  have HY := Lib.hid hy
  clear hv hc hk hs hl hu ht hy
  go_enter Try.func47, Try.ntmps47
  go_wp2_with fail
  refine (c_impl_arePeeled a zs.length cap zs _ HC.out HM.out H.out).mono ?_; rintro e w' ⟨rfl, rfl⟩
  go_wp2_with fail
  refine (c_impl_IsKey_q key _ HK.out).mono ?_; rintro e w' ⟨rfl, rfl⟩
  go_wp2_with fail
  refine (c_impl_IsKey_q S _ HS.out).mono ?_; rintro e w' ⟨rfl, rfl⟩
  go_wp2_with fail
  refine (c_impl_toldOf key S a zs.length cap m t zs _ HK.out HS.out HL.out hm2 hm1 H.out HU.out HT.out).mono ?_; rintro e u1 ⟨rfl, x1⟩
  have HX := Lib.hid x1
  clear x1
  go_wp2_with fail
  refine (c_impl_markOf key S y _ HK.out HS.out HY.out).mono ?_; rintro e w' ⟨rfl, rfl⟩
  have HQ := Lib.hid (show ((t : Int) == (y : Int)) = v by rw [← HV.out]; by_cases e : t = y <;> simp [e] <;> omega)
  go_wp2
  go_ret2
  exact ⟨by first | (rw [← HQ.out]; rfl) | (rw [← HQ.out]; simp), HX.out⟩
end Go.Proofs.Ytfolflkbpdbkcaa
