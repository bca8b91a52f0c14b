/- Least and greatest last ones by the program. -/
import Derived.Test.YtjnhflpoddpfnabLmn
import Derived.Test.YtjnhflpoddpfnabLmx
import Derived.Test.YtjnhflpoddpfnabCis3
namespace Go.Proofs.Ytjnhflpoddpfnab
open Go.ChangeShapes Go.WideShapes Go.ChangeAt Go.RowKit
set_option linter.unusedVariables false
theorem readB_1 {zs : List Int} {long : Int} (h : inB 1 (zs.length : Int) 128 = false) : readB zs long = false := by
  unfold inB at h
  have h' := of_decide_eq_false h
  unfold readB; rw [decide_eq_false (by omega)]; rfl
theorem readB_2 {zs : List Int} {long : Int} (h : manyB 1000000 zs = false) : readB zs long = false := by unfold readB; rw [h]; simp
theorem readB_3 {zs : List Int} {long : Int} (h : inB 1 long 128 = false) : readB zs long = false := by
  unfold readB; rw [show decide (1 ≤ long ∧ long ≤ 128) = false from h]; simp
theorem readB_y {zs : List Int} {long : Int} (h1 : inB 1 (zs.length : Int) 128 = true) (h2 : manyB 1000000 zs = true) (h3 : inB 1 long 128 = true) : readB zs long = true := by
  have h' := inB_is.1 h1
  unfold readB; rw [decide_eq_true (by omega), h2, show decide (1 ≤ long ∧ long ≤ 128) = true from h3]; rfl
theorem retB7 {a b : Bool} (h : a = b) : Ending.returned (.bool a) = Ending.returned (.bool b) := by rw [h]
theorem c_areWithin_q (a : Option Addr) (n cap : Nat) (zs : List Int) (m : Int) (w : World) {r : Bool} (m0 : 0 ≤ m) (m1 : m ≤ 1000000000000) (hm : n ≤ maxLen) (hr : manyB m zs = r) (h : Reads w a n (ints zs)) :
    Calls Try.prog 88 #[.slice a n cap, .int .i64 m] w fun e w' => e = .returned (.bool r) ∧ Ext w w' :=
  (c_impl_areWithin a n cap zs m w m0 m1 hm hr h).mono (by
    rintro e w' ⟨rfl, hw⟩
    refine ⟨rfl, ?_⟩
    first | (subst hw; exact Ext.refl _) | (rw [hw]; exact Ext.refl _) | (rw [← hw]; exact Ext.refl _) | (obtain ⟨q, rfl⟩ := hw; exact Ext.drewN _ _))
theorem c_impl_isStreamSize_s (n : Int) (w : World) {b : Bool} (h : inB 1 n 128 = b) : Calls Try.prog 57 #[.int .i64 n] w fun e w' => e = .returned (.bool b) ∧ w = w' := by
  unfold inB at h
  by_cases h1 : 1 ≤ n
  · by_cases h2 : n ≤ 128
    · have H := Lib.hid (show b = true by rw [← h]; exact decide_eq_true ⟨h1, h2⟩)
      clear h
      go_enter Try.func57, Try.ntmps57
      go_wp2
      go_ret
      exact ⟨retB7 H.out.symm, rfl⟩
    · have H := Lib.hid (show b = false by rw [← h]; exact decide_eq_false (by omega))
      have h3 : 128 < n := by omega
      clear h
      go_enter Try.func57, Try.ntmps57
      go_wp2
      go_ret
      exact ⟨retB7 H.out.symm, rfl⟩
  · have H := Lib.hid (show b = false by rw [← h]; exact decide_eq_false (by omega))
    have h3 : n < 1 := by omega
    clear h
    go_enter Try.func57, Try.ntmps57
    go_wp2
    go_ret
    exact ⟨retB7 H.out.symm, rfl⟩
set_option maxHeartbeats 2000000 in
theorem c_tellReadings_Min (a : Option Addr) (n cap : Nat) (zs : List Int) (long : Int) (w : World) {rz : List Int} {rb : Bool} (hv : tellR leastI zs long = (rz, rb)) (hm : n ≤ 1048576) (h : Reads w a n (ints zs)) (hnc : n ≤ cap) :
    Calls Try.prog 45 #[.slice a n cap, .int .i64 long, .func (.func 46) #[] #[]] w (RetSB 2 rz.length (ints rz) rb w) := by
  have hz := h.int.1
  have H := Lib.hid h
  have HM := Lib.hid (show n ≤ maxLen by unfold maxLen; omega)
  cases h1 : inB 1 (n : Int) 128
  · rw [tellR_no (readB_1 (by rw [hz]; exact h1))] at hv
    cases hv
    have H1 := Lib.hid h1
    clear h1 h hm hz
    go_enter Try.func45, Try.ntmps45
    go_wp2_with fail
    refine (c_impl_isStreamSize_s _ _ H1.out).mono ?_; rintro e w' ⟨rfl, rfl⟩
    go_wp2
    go_ret2
    exact RetSB.nil _ _
  cases h2 : manyB 1000000 zs
  · rw [tellR_no (readB_2 h2)] at hv
    cases hv
    have H1 := Lib.hid h1
    have H2 := Lib.hid h2
    clear h1 h2 h hm hz
    go_enter Try.func45, Try.ntmps45
    go_wp2_with fail
    refine (c_impl_isStreamSize_s _ _ H1.out).mono ?_; rintro e w' ⟨rfl, rfl⟩
    go_wp2_with fail
    refine (c_areWithin_q _ _ _ zs 1000000 _ (by omega) (by omega) HM.out H2.out H.out).mono ?_; rintro e w' ⟨rfl, x'⟩
    have X := Lib.hid x'
    clear x'
    go_wp2
    go_ret2
    exact ⟨none, 0, rfl, Own.nil _ _ _ _, X.out⟩
  cases h3 : inB 1 long 128
  · rw [tellR_no (readB_3 h3)] at hv
    cases hv
    have H1 := Lib.hid h1
    have H2 := Lib.hid h2
    have H3 := Lib.hid h3
    clear h1 h2 h3 h hm hz
    go_enter Try.func45, Try.ntmps45
    go_wp2_with fail
    refine (c_impl_isStreamSize_s _ _ H1.out).mono ?_; rintro e w' ⟨rfl, rfl⟩
    go_wp2_with fail
    refine (c_areWithin_q _ _ _ zs 1000000 _ (by omega) (by omega) HM.out H2.out H.out).mono ?_; rintro e u1 ⟨rfl, x'⟩
    have X := Lib.hid x'
    clear x'
    go_wp2_with fail
    refine (c_impl_isStreamSize_s _ _ H3.out).mono ?_; rintro e w' ⟨rfl, rfl⟩
    go_wp2
    go_ret2
    exact ⟨none, 0, rfl, Own.nil _ _ _ _, X.out⟩
  · rw [tellR_yes (readB_y (by rw [hz]; exact h1) h2 h3)] at hv
    cases hv
    obtain ⟨b1, b2⟩ := inB_is.1 h1
    obtain ⟨b3, b4⟩ := inB_is.1 h3
    obtain ⟨L, hL⟩ : ∃ L : Nat, long.toNat = L := ⟨_, rfl⟩
    obtain rfl : long = (L : Int) := by omega
    rw [hL]
    obtain ⟨b, off, rfl⟩ : ∃ b off, a = some ⟨b, off, none⟩ := by
      rcases h.2 with h0 | ⟨b', off', rfl, _⟩
      · omega
      · exact ⟨_, _, rfl⟩
    have H1 := Lib.hid h1
    have H2 := Lib.hid h2
    have H3 := Lib.hid h3
    have HTL := Lib.hid (show (tellZ leastI zs L).length = n by rw [tellZ_length]; exact hz)
    clear h1 h2 h3 h hm hz hL
    go_enter Try.func45, Try.ntmps45
    go_wp2_with fail
    refine (c_impl_isStreamSize_s _ _ H1.out).mono ?_; rintro e w' ⟨rfl, rfl⟩
    go_wp2_with fail
    refine (c_areWithin_q _ _ _ zs 1000000 _ (by omega) (by omega) HM.out H2.out H.out).mono ?_; rintro e u1 ⟨rfl, x'⟩
    have X := Lib.hid x'
    clear x'
    go_wp2_with fail
    refine (c_impl_isStreamSize_s _ _ H3.out).mono ?_; rintro e w' ⟨rfl, rfl⟩
    go_wp2_with fail
    refine (c_tellLast_Min b off n cap L zs _ (by omega) (by omega) hnc (by omega) (by omega) (H.out.on X.out)).mono ?_; rintro e u2 ⟨a2, c2, rfl, o2, x2⟩
    have O2 := Lib.hid o2
    have X2 := Lib.hid (X.out.trans x2)
    have SZ := Lib.hid X.out.size
    clear o2 x2
    go_wp2
    go_ret2
    exact ⟨a2, c2, by first | (rw [HTL.out]; done) | (rw [HTL.out]; rfl), by rw [HTL.out]; exact O2.out.wide SZ.out (Nat.le_refl _), X2.out⟩
theorem c_impl_LeastOfWindow (a : Option Addr) (n cap : Nat) (zs : List Int) (long : Int) (w : World) {rz : List Int} {rb : Bool} (hv : tellR leastI zs long = (rz, rb)) (hm : n ≤ 1048576) (h : Reads w a n (ints zs)) (hnc : n ≤ cap) :
    Calls Try.prog 15 #[.slice a n cap, .int .i64 long] w (RetSB 2 rz.length (ints rz) rb w) := by
  have H := Lib.hid h
  have HV := Lib.hid hv
  clear h hv
  go_enter Try.func15, Try.ntmps15
  go_wp2_with fail
  refine (c_tellReadings_Min _ _ _ zs long _ HV.out hm H.out hnc).mono ?_; rintro e u1 ⟨a1, c1, rfl, o1, x1⟩
  have O1 := Lib.hid o1
  have X1 := Lib.hid x1
  clear o1 x1
  go_wp2
  go_ret2
  exact ⟨_, _, rfl, O1.out, X1.out⟩
set_option maxHeartbeats 2000000 in
theorem c_tellReadings_Max (a : Option Addr) (n cap : Nat) (zs : List Int) (long : Int) (w : World) {rz : List Int} {rb : Bool} (hv : tellR mostI zs long = (rz, rb)) (hm : n ≤ 1048576) (h : Reads w a n (ints zs)) (hnc : n ≤ cap) :
    Calls Try.prog 45 #[.slice a n cap, .int .i64 long, .func (.func 48) #[] #[]] w (RetSB 2 rz.length (ints rz) rb w) := by
  have hz := h.int.1
  have H := Lib.hid h
  have HM := Lib.hid (show n ≤ maxLen by unfold maxLen; omega)
  cases h1 : inB 1 (n : Int) 128
  · rw [tellR_no (readB_1 (by rw [hz]; exact h1))] at hv
    cases hv
    have H1 := Lib.hid h1
    clear h1 h hm hz
    go_enter Try.func45, Try.ntmps45
    go_wp2_with fail
    refine (c_impl_isStreamSize_s _ _ H1.out).mono ?_; rintro e w' ⟨rfl, rfl⟩
    go_wp2
    go_ret2
    exact RetSB.nil _ _
  cases h2 : manyB 1000000 zs
  · rw [tellR_no (readB_2 h2)] at hv
    cases hv
    have H1 := Lib.hid h1
    have H2 := Lib.hid h2
    clear h1 h2 h hm hz
    go_enter Try.func45, Try.ntmps45
    go_wp2_with fail
    refine (c_impl_isStreamSize_s _ _ H1.out).mono ?_; rintro e w' ⟨rfl, rfl⟩
    go_wp2_with fail
    refine (c_areWithin_q _ _ _ zs 1000000 _ (by omega) (by omega) HM.out H2.out H.out).mono ?_; rintro e w' ⟨rfl, x'⟩
    have X := Lib.hid x'
    clear x'
    go_wp2
    go_ret2
    exact ⟨none, 0, rfl, Own.nil _ _ _ _, X.out⟩
  cases h3 : inB 1 long 128
  · rw [tellR_no (readB_3 h3)] at hv
    cases hv
    have H1 := Lib.hid h1
    have H2 := Lib.hid h2
    have H3 := Lib.hid h3
    clear h1 h2 h3 h hm hz
    go_enter Try.func45, Try.ntmps45
    go_wp2_with fail
    refine (c_impl_isStreamSize_s _ _ H1.out).mono ?_; rintro e w' ⟨rfl, rfl⟩
    go_wp2_with fail
    refine (c_areWithin_q _ _ _ zs 1000000 _ (by omega) (by omega) HM.out H2.out H.out).mono ?_; rintro e u1 ⟨rfl, x'⟩
    have X := Lib.hid x'
    clear x'
    go_wp2_with fail
    refine (c_impl_isStreamSize_s _ _ H3.out).mono ?_; rintro e w' ⟨rfl, rfl⟩
    go_wp2
    go_ret2
    exact ⟨none, 0, rfl, Own.nil _ _ _ _, X.out⟩
  · rw [tellR_yes (readB_y (by rw [hz]; exact h1) h2 h3)] at hv
    cases hv
    obtain ⟨b1, b2⟩ := inB_is.1 h1
    obtain ⟨b3, b4⟩ := inB_is.1 h3
    obtain ⟨L, hL⟩ : ∃ L : Nat, long.toNat = L := ⟨_, rfl⟩
    obtain rfl : long = (L : Int) := by omega
    rw [hL]
    obtain ⟨b, off, rfl⟩ : ∃ b off, a = some ⟨b, off, none⟩ := by
      rcases h.2 with h0 | ⟨b', off', rfl, _⟩
      · omega
      · exact ⟨_, _, rfl⟩
    have H1 := Lib.hid h1
    have H2 := Lib.hid h2
    have H3 := Lib.hid h3
    have HTL := Lib.hid (show (tellZ mostI zs L).length = n by rw [tellZ_length]; exact hz)
    clear h1 h2 h3 h hm hz hL
    go_enter Try.func45, Try.ntmps45
    go_wp2_with fail
    refine (c_impl_isStreamSize_s _ _ H1.out).mono ?_; rintro e w' ⟨rfl, rfl⟩
    go_wp2_with fail
    refine (c_areWithin_q _ _ _ zs 1000000 _ (by omega) (by omega) HM.out H2.out H.out).mono ?_; rintro e u1 ⟨rfl, x'⟩
    have X := Lib.hid x'
    clear x'
    go_wp2_with fail
    refine (c_impl_isStreamSize_s _ _ H3.out).mono ?_; rintro e w' ⟨rfl, rfl⟩
    go_wp2_with fail
    refine (c_tellLast_Max b off n cap L zs _ (by omega) (by omega) hnc (by omega) (by omega) (H.out.on X.out)).mono ?_; rintro e u2 ⟨a2, c2, rfl, o2, x2⟩
    have O2 := Lib.hid o2
    have X2 := Lib.hid (X.out.trans x2)
    have SZ := Lib.hid X.out.size
    clear o2 x2
    go_wp2
    go_ret2
    exact ⟨a2, c2, by first | (rw [HTL.out]; done) | (rw [HTL.out]; rfl), by rw [HTL.out]; exact O2.out.wide SZ.out (Nat.le_refl _), X2.out⟩
theorem c_impl_GreatestOfWindow (a : Option Addr) (n cap : Nat) (zs : List Int) (long : Int) (w : World) {rz : List Int} {rb : Bool} (hv : tellR mostI zs long = (rz, rb)) (hm : n ≤ 1048576) (h : Reads w a n (ints zs)) (hnc : n ≤ cap) :
    Calls Try.prog 20 #[.slice a n cap, .int .i64 long] w (RetSB 2 rz.length (ints rz) rb w) := by
  have H := Lib.hid h
  have HV := Lib.hid hv
  clear h hv
  go_enter Try.func20, Try.ntmps20
  go_wp2_with fail
  refine (c_tellReadings_Max _ _ _ zs long _ HV.out hm H.out hnc).mono ?_; rintro e u1 ⟨a1, c1, rfl, o1, x1⟩
  have O1 := Lib.hid o1
  have X1 := Lib.hid x1
  clear o1 x1
  go_wp2
  go_ret2
  exact ⟨_, _, rfl, O1.out, X1.out⟩
end Go.Proofs.Ytjnhflpoddpfnab
