/- The walks of the laws IsKey, MixHash, HashOf, SignOf, BelowHash. -/
import Derived.Test.YtdbllnmhlfkhbaaSca
namespace Go.Proofs.Ytdbllnmhlfkhbaa
open Go.ChangeShapes Go.WideShapes Go.ChangeAt Go.RowKit
set_option linter.unusedVariables false
theorem walk_FnExactIsKey (a0 : Int) (w : World) (w0 : (Lit.int .i64 a0).wf = true) :
    Calls Try.prog 3 #[.int .i64 a0] w fun e w' => e = .returned (.bool true) ∧ Below w.heap.size w w' := by
  clear w0
  go_enter Try.func3, Try.ntmps3
  go_wp2_with (first | (go_at_call 14; refine (c_spec_IsKey _ _).mono ?_; rintro e w' ⟨rfl, rfl⟩) | (go_at_call 15; refine (c_impl_IsKey _ _).mono ?_; rintro e w' ⟨rfl, rfl⟩))
  go_ret
  exact ⟨rfl, Below.refl _ _⟩
theorem wf_u64 {n : Int} (h : (Lit.int .u64 n).wf = true) : 0 ≤ n ∧ n < 18446744073709551616 := by
  have hmin : IntKind.u64.min = 0 := rfl
  have hmax : IntKind.u64.max = 18446744073709551615 := rfl
  simp only [Lit.wf, Bool.and_eq_true, decide_eq_true_eq] at h
  omega
theorem walk_FnExactMixHash (a0 : Int) (w : World) (w0 : (Lit.int .u64 a0).wf = true) :
    Calls Try.prog 5 #[.int .u64 a0] w fun e w' => e = .returned (.bool true) ∧ Below w.heap.size w w' := by
  obtain ⟨h0, h1⟩ := wf_u64 w0
  clear w0
  obtain ⟨x, rfl⟩ := Int.eq_ofNat_of_zero_le h0
  have h2 : x < 18446744073709551616 := by omega
  go_enter Try.func5, Try.ntmps5
  go_wp2_with (first | (go_at_call 20; refine (c_spec_MixHash _ _ h2).mono ?_; rintro e w' ⟨rfl, rfl⟩) | (go_at_call 21; refine (c_impl_MixHash _ _ h2).mono ?_; rintro e w' ⟨rfl, rfl⟩))
  go_ret
  exact ⟨rfl, Below.refl _ _⟩
theorem walk_FnExactHashOf (a0 a1 : Int) (w : World) (w0 : (Lit.int .i64 a0).wf = true) (w1 : (Lit.int .i64 a1).wf = true) :
    Calls Try.prog 6 #[.int .i64 a0, .int .i64 a1] w fun e w' => e = .returned (.bool true) ∧ Below w.heap.size w w' := by
  clear w0 w1
  go_enter Try.func6, Try.ntmps6
  go_wp2_with (first | (go_at_call 22; refine (c_spec_HashOf _ _ _).mono ?_; rintro e w' ⟨rfl, rfl⟩) | (go_at_call 23; refine (c_impl_HashOf _ _ _).mono ?_; rintro e w' ⟨rfl, rfl⟩))
  go_ret
  exact ⟨rfl, Below.refl _ _⟩
theorem walk_FnExactSignOf (a0 a1 : Int) (w : World) (w0 : (Lit.int .i64 a0).wf = true) (w1 : (Lit.int .i64 a1).wf = true) :
    Calls Try.prog 7 #[.int .i64 a0, .int .i64 a1] w fun e w' => e = .returned (.bool true) ∧ Below w.heap.size w w' := by
  clear w0 w1
  go_enter Try.func7, Try.ntmps7
  go_wp2_with (first | (go_at_call 24; refine (c_spec_SignOf _ _ _).mono ?_; rintro e w' ⟨rfl, rfl⟩) | (go_at_call 25; refine (c_impl_SignOf _ _ _).mono ?_; rintro e w' ⟨rfl, rfl⟩))
  go_ret
  exact ⟨rfl, Below.refl _ _⟩
theorem c_impl_BelowHash (key salt n : Int) (w : World) : Calls Try.prog 27 #[.int .i64 key, .int .i64 salt, .int .i64 n] w fun e w' => e = .returned (.tuple #[.int .i64 (belowV key salt n), .bool (belowB key salt n)]) ∧ w = w' := by
  cases hk : keyB key
  · have HK := Lib.hid hk
    have HB := Lib.hid (belowB_1 (salt := salt) (n := n) hk)
    have HV := Lib.hid (belowV_no HB.out)
    clear hk
    go_enter Try.func27, Try.ntmps27
    go_wp2_with (go_at_call 15; refine (c_impl_IsKey_of key _ HK.out).mono ?_; rintro e w' ⟨rfl, rfl⟩)
    go_ret2
    exact ⟨by rw [HV.out, HB.out]; rfl, rfl⟩
  · cases hs : keyB salt
    · have HK := Lib.hid hk
      have HS := Lib.hid hs
      have HB := Lib.hid (belowB_2 (key := key) (n := n) hs)
      have HV := Lib.hid (belowV_no HB.out)
      clear hk hs
      go_enter Try.func27, Try.ntmps27
      go_wp2_with fail
      refine (c_impl_IsKey_of key _ HK.out).mono ?_; rintro e w' ⟨rfl, rfl⟩
      go_wp2_with fail
      refine (c_impl_IsKey_of salt _ HS.out).mono ?_; rintro e w' ⟨rfl, rfl⟩
      go_wp2
      go_ret2
      exact ⟨by rw [HV.out, HB.out]; rfl, rfl⟩
    · have HK := Lib.hid hk
      have HS := Lib.hid hs
      by_cases h1 : 1 ≤ n
      · by_cases h2 : n ≤ 4294967296
        · have HB := Lib.hid (belowB_mk hk hs h1 h2)
          obtain ⟨m, rfl⟩ := Int.eq_ofNat_of_zero_le (show (0 : Int) ≤ n from by omega)
          have HV := Lib.hid (belowV_yes HB.out)
          have hm : m ≤ 4294967296 := by omega
          clear hk hs
          go_enter Try.func27, Try.ntmps27
          go_wp2_with fail
          refine (c_impl_IsKey_of key _ HK.out).mono ?_; rintro e w' ⟨rfl, rfl⟩
          go_wp2_with fail
          refine (c_impl_IsKey_of salt _ HS.out).mono ?_; rintro e w' ⟨rfl, rfl⟩
          go_wp2_with fail
          refine (c_impl_hashBelow key salt m _ HK.out HS.out hm).mono ?_; rintro e w' ⟨rfl, rfl⟩
          go_wp2
          go_ret2
          exact ⟨by rw [HV.out, HB.out]; rfl, rfl⟩
        · have HB := Lib.hid (belowB_3 (key := key) (salt := salt) (n := n) (by omega))
          have HV := Lib.hid (belowV_no HB.out)
          have h2' : 4294967296 < n := by omega
          clear hk hs h2
          go_enter Try.func27, Try.ntmps27
          go_wp2_with fail
          refine (c_impl_IsKey_of key _ HK.out).mono ?_; rintro e w' ⟨rfl, rfl⟩
          go_wp2_with fail
          refine (c_impl_IsKey_of salt _ HS.out).mono ?_; rintro e w' ⟨rfl, rfl⟩
          go_wp2
          go_ret2
          exact ⟨by rw [HV.out, HB.out]; rfl, rfl⟩
      · have HB := Lib.hid (belowB_3 (key := key) (salt := salt) (n := n) (by omega))
        have HV := Lib.hid (belowV_no HB.out)
        have h1' : n < 1 := by omega
        clear hk hs h1
        go_enter Try.func27, Try.ntmps27
        go_wp2_with fail
        refine (c_impl_IsKey_of key _ HK.out).mono ?_; rintro e w' ⟨rfl, rfl⟩
        go_wp2_with fail
        refine (c_impl_IsKey_of salt _ HS.out).mono ?_; rintro e w' ⟨rfl, rfl⟩
        go_wp2
        go_ret2
        exact ⟨by rw [HV.out, HB.out]; rfl, rfl⟩
theorem c_l00In_of (k lo hi : Int) (w : World) {b : Bool} (h : inB lo k hi = b) : Calls Try.prog 51 #[.int .i64 k, .int .i64 lo, .int .i64 hi] w fun e w' => e = .returned (.bool b) ∧ w = w' := by
  subst h; exact c_l00In k lo hi w
theorem c_spec_BelowHash (key salt n : Int) (w : World) : Calls Try.prog 26 #[.int .i64 key, .int .i64 salt, .int .i64 n] w fun e w' => e = .returned (.tuple #[.int .i64 (belowV key salt n), .bool (belowB key salt n)]) ∧ w = w' := by
  cases hb : keyB key && keyB salt
  · have HB := Lib.hid hb
    have HC := Lib.hid (show belowB key salt n = false from by unfold belowB; rw [hb]; rfl)
    have HV := Lib.hid (belowV_no HC.out)
    clear hb
    go_enter Try.func26, Try.ntmps26
    go_wp2_with (go_at_call 47; refine (c_spec_l02Both_of key salt _ HB.out).mono ?_; rintro e w' ⟨rfl, rfl⟩)
    go_ret2
    exact ⟨by rw [HV.out, HC.out]; rfl, rfl⟩
  · have HB := Lib.hid hb
    have HK := Lib.hid (both_yes hb)
    clear hb
    by_cases h : 1 ≤ n ∧ n ≤ 4294967296
    · have HC := Lib.hid (belowB_mk HK.out.1 HK.out.2 h.1 h.2)
      have HN := Lib.hid (inB_yes (hi := 4294967296) h.1 h.2)
      obtain ⟨m, rfl⟩ := Int.eq_ofNat_of_zero_le (show (0 : Int) ≤ n from by omega)
      have HV := Lib.hid (belowV_yes HC.out)
      have hm : m ≤ 4294967296 := by omega
      clear h
      go_enter Try.func26, Try.ntmps26
      go_wp2_with (first | (go_at_call 47; refine (c_spec_l02Both_of key salt _ HB.out).mono ?_; rintro e w' ⟨rfl, rfl⟩) | (go_at_call 51; refine (c_l00In_of _ _ _ _ HN.out).mono ?_; rintro e w' ⟨rfl, rfl⟩) | (go_at_call 52; refine (c_spec_l02Below key salt m _ HK.out.1 HK.out.2 hm).mono ?_; rintro e w' ⟨rfl, rfl⟩))
      go_ret2
      exact ⟨by rw [HV.out, HC.out]; rfl, rfl⟩
    · have HC := Lib.hid (belowB_3 (key := key) (salt := salt) (n := n) h)
      have HV := Lib.hid (belowV_no HC.out)
      have HN := Lib.hid (inB_no (lo := 1) (k := n) (hi := 4294967296) h)
      clear h
      go_enter Try.func26, Try.ntmps26
      go_wp2_with (first | (go_at_call 47; refine (c_spec_l02Both_of key salt _ HB.out).mono ?_; rintro e w' ⟨rfl, rfl⟩) | (go_at_call 51; refine (c_l00In_of _ _ _ _ HN.out).mono ?_; rintro e w' ⟨rfl, rfl⟩))
      go_ret2
      exact ⟨by rw [HV.out, HC.out]; rfl, rfl⟩
theorem walk_FnExactBelowHash (a0 a1 a2 : Int) (w : World) (w0 : (Lit.int .i64 a0).wf = true) (w1 : (Lit.int .i64 a1).wf = true) (w2 : (Lit.int .i64 a2).wf = true) :
    Calls Try.prog 8 #[.int .i64 a0, .int .i64 a1, .int .i64 a2] w fun e w' => e = .returned (.bool true) ∧ Below w.heap.size w w' := by
  clear w0 w1 w2
  go_enter Try.func8, Try.ntmps8
  go_wp2_with (first | (go_at_call 26; refine (c_spec_BelowHash _ _ _ _).mono ?_; rintro e w' ⟨rfl, rfl⟩) | (go_at_call 27; refine (c_impl_BelowHash _ _ _ _).mono ?_; rintro e w' ⟨rfl, rfl⟩))
  go_ret
  exact ⟨rfl, Below.refl _ _⟩
end Go.Proofs.Ytdbllnmhlfkhbaa
