/- MeetOfLeast: both sides. -/
import Derived.Test.YtjnhflpoddpfnabMol
namespace Go.Proofs.Ytjnhflpoddpfnab
open Go.ChangeShapes Go.WideShapes Go.ChangeAt Go.RowKit Go.Shelf Go.Proofs.Ytjnhflpoddpfnab.Flo
set_option linter.unusedVariables false
attribute [local go_sem] run_fl_add run_fl_sub run_fl_mul run_fl_quo run_conv run_store_float run_store_complex
set_option maxRecDepth 100000 in
set_option maxHeartbeats 4000000 in
theorem c_impl_MeetOfLeast (a1 : Option Addr) (n1 c1 : Nat) (xs : List Int) (a2 : Option Addr) (n2 c2 : Nat) (ys : List Int) (room : Int) (w : World) {v : Option Nat} {rb : Bool} (hv : meetR xs ys room = (v, rb)) (hm1 : n1 ≤ 1048576) (h1 : Reads w a1 n1 (ints xs)) (hm2 : n2 ≤ 1048576) (h2 : Reads w a2 n2 (ints ys)) (s1 : SlN a1 n1 c1) (s2 : SlN a2 n2 c2) :
    Calls Try.prog 40 #[.slice a1 n1 c1, .slice a2 n2 c2, .int .i64 room] w fun e w' => ∃ f, e = .returned (.tuple #[.float .f32 f, .bool rb]) ∧ fv .f32 f = v ∧ Ext w w' := by
  have H1 := Lib.hid h1
  have H2 := Lib.hid h2
  have M1 := Lib.hid hm1
  have M2 := Lib.hid hm2
  have S1 := Lib.hid s1
  have S2 := Lib.hid s2
  clear h1 h2 hm1 hm2 s1 s2
  obtain ⟨L, b, hj⟩ : ∃ L b, jlR xs ys room = (L, b) := ⟨_, _, rfl⟩
  have HJ := Lib.hid hj
  have HLE := Lib.hid (jlR_le hj)
  cases b
  · rw [meetR_no hj (.inl rfl)] at hv
    cases hv
    clear hj
    go_enter Try.func40, Try.ntmps40
    go_wp2_with fail
    refine (c_impl_JoinLeast a1 n1 c1 xs a2 n2 c2 ys room _ HJ.out M1.out H1.out M2.out H2.out S1.out S2.out).mono ?_; rintro e u1 ⟨a3, c3, rfl, o3, x3⟩
    have X3 := Lib.hid x3
    clear o3 x3
    go_wp2
    go_ret2
    exact ⟨_, rfl, fvz, X3.out⟩
  obtain ⟨m, hm⟩ : ∃ m, L.length = m := ⟨_, rfl⟩
  have HM := Lib.hid hm
  by_cases h0 : m = 0
  · rw [meetR_no hj (.inr (by rw [hm]; exact h0))] at hv
    cases hv
    have HZ := Lib.hid h0
    clear hj hm h0
    go_enter Try.func40, Try.ntmps40
    go_wp2_with fail
    refine (c_impl_JoinLeast a1 n1 c1 xs a2 n2 c2 ys room _ HJ.out M1.out H1.out M2.out H2.out S1.out S2.out).mono ?_; rintro e u1 ⟨a3, c3, rfl, o3, x3⟩
    rw [HM.out, HZ.out]
    have X3 := Lib.hid x3
    clear o3 x3
    go_wp2
    go_ret2
    exact ⟨_, rfl, fvz, X3.out⟩
  · rw [meetR_yes hj (by rw [hm]; omega), hm] at hv
    cases hv
    have hm0 : (m : Int) ≠ 0 := by omega
    have hm2 : ((m : Int) == 0) = false := by simpa using hm0
    have hm3 : ¬ (m : Int) = 0 := hm0
    have hmI : (m : Int) ≤ 1048576 := by have := HLE.out; omega
    have hmN : m ≤ 1048576 := by omega
    have HMB := Lib.hid (show m ≤ 1048576 by have := HLE.out; omega)
    clear hj hm h0
    go_enter Try.func40, Try.ntmps40
    go_wp2_with fail
    refine (c_impl_JoinLeast a1 n1 c1 xs a2 n2 c2 ys room _ HJ.out M1.out H1.out M2.out H2.out S1.out S2.out).mono ?_; rintro e u1 ⟨a3, c3, rfl, o3, x3⟩
    rw [HM.out] at o3 ⊢
    have X3 := Lib.hid x3
    have R3 := Lib.hid o3.reads
    clear o3 x3
    go_wp2
    go_loopw [10, 29] (fun c i wr => ∃ k : Nat, k ≤ m ∧ i = .int .i64 k ∧ c = .int .i64 ((meetC xs ys L k : Nat) : Int) ∧ Ext u1 wr) (fun _ i _ => m - (intOf i).toNat)
    case atStart => exact ⟨0, Nat.zero_le _, rfl, rfl, Ext.refl _⟩
    case round =>
      obtain ⟨k, hk, rfl, rfl, hext⟩ := hrel
      have HQ := Lib.hid hext
      have HE := Lib.hid (X3.out.trans hext)
      by_cases hlt : k < m
      · have hlt' : (k : Int) < (m : Int) := by omega
        rcases R3.out.int.2 with h0 | ⟨g, o, rfl, hc⟩
        · omega
        obtain ⟨x, hx⟩ : ∃ x, L[k]?.getD 0 = x := ⟨_, rfl⟩
        have hcell := HQ.out.some (hc k hlt)
        rw [hx] at hcell
        have HX := Lib.hid (show getI L k = x from hx)
        have hcl := meetC_le xs ys L k
        obtain ⟨c, hcv⟩ : ∃ c, meetC xs ys L k = c := ⟨_, rfl⟩
        rw [hcv] at hcl ⊢
        have HCV := Lib.hid hcv
        have c1' : (c : Int) ≤ 1048576 := by have := HMB.out; omega
        clear hc hext hx hcv
        cases hca : xs.contains x
        · have HCA := Lib.hid hca
          have HN := Lib.hid (show meetC xs ys L (k + 1) = c by rw [meetC_no (by rw [HX.out, hca]; rfl), HCV.out])
          clear hca
          go_wp2_with (first | (go_at_call 87; refine (c_Contains _ _ _ xs x _ HCA.out M1.out (H1.out.on HE.out)).mono ?_; rintro e w' ⟨rfl, rfl⟩; clear HCA))
          go_roundw
          case rel => exact ⟨k + 1, by omega, by go_num, by rw [HN.out], HQ.out⟩
          case measure => simp [intOf]; omega
        · cases hcb : ys.contains x
          · have HCA := Lib.hid hca
            have HCB := Lib.hid hcb
            have HN := Lib.hid (show meetC xs ys L (k + 1) = c by rw [meetC_no (by rw [HX.out, hcb]; simp), HCV.out])
            clear hca hcb
            go_wp2_with (first | (go_at_call 87; refine (c_Contains _ _ _ xs x _ HCA.out M1.out (H1.out.on HE.out)).mono ?_; rintro e w' ⟨rfl, rfl⟩; clear HCA) | (go_at_call 87; refine (c_Contains _ _ _ ys x _ HCB.out M2.out (H2.out.on HE.out)).mono ?_; rintro e w' ⟨rfl, rfl⟩))
            go_roundw
            case rel => exact ⟨k + 1, by omega, by go_num, by rw [HN.out], HQ.out⟩
            case measure => simp [intOf]; omega
          · have HCA := Lib.hid hca
            have HCB := Lib.hid hcb
            have HN := Lib.hid (show meetC xs ys L (k + 1) = c + 1 by rw [meetC_yes (by rw [HX.out, hca, hcb]; rfl), HCV.out])
            clear hca hcb
            go_wp2_with (first | (go_at_call 87; refine (c_Contains _ _ _ xs x _ HCA.out M1.out (H1.out.on HE.out)).mono ?_; rintro e w' ⟨rfl, rfl⟩; clear HCA) | (go_at_call 87; refine (c_Contains _ _ _ ys x _ HCB.out M2.out (H2.out.on HE.out)).mono ?_; rintro e w' ⟨rfl, rfl⟩))
            go_roundw
            case rel => exact ⟨k + 1, by omega, by go_num, by rw [HN.out]; go_num, HQ.out⟩
            case measure => simp [intOf]; omega
      · have hkm : k = m := by omega
        subst hkm
        obtain ⟨c, hcv⟩ : ∃ c, meetC xs ys L k = c := ⟨_, rfl⟩
        have HCV := Lib.hid hcv
        rw [hcv]
        have hlt' : ¬ (k : Int) < (k : Int) := by omega
        clear hext hcv
        go_wp2
        go_ret2
        exact ⟨_, rfl, by rw [fv_flR]; unfold meetV; first | rfl | (rw [HCV.out]), HE.out.trans (by (repeat (first | assumption | exact Ext.refl _ | (with_reducible refine Ext.stepS ?_ (by first | exact Nat.le_refl _ | (simp; done) | (simp; omega)) _) | (with_reducible refine Ext.stepN ?_ _) | (with_reducible refine Ext.stepD ?_) | (with_reducible refine Ext.stepA ?_ _))))⟩
set_option maxRecDepth 100000 in
set_option maxHeartbeats 4000000 in
theorem c_spec_MeetOfLeast (a1 : Option Addr) (n1 c1 : Nat) (xs : List Int) (a2 : Option Addr) (n2 c2 : Nat) (ys : List Int) (room : Int) (w : World) {v : Option Nat} {rb : Bool} (hv : meetR xs ys room = (v, rb)) (hm1 : n1 ≤ 1048576) (h1 : Reads w a1 n1 (ints xs)) (hm2 : n2 ≤ 1048576) (h2 : Reads w a2 n2 (ints ys)) (s1 : SlN a1 n1 c1) (s2 : SlN a2 n2 c2) :
    Calls Try.prog 39 #[.slice a1 n1 c1, .slice a2 n2 c2, .int .i64 room] w fun e w' => ∃ f, e = .returned (.tuple #[.float .f32 f, .bool rb]) ∧ fv .f32 f = v ∧ Ext w w' := by
  have H1 := Lib.hid h1
  have H2 := Lib.hid h2
  have M1 := Lib.hid hm1
  have M2 := Lib.hid hm2
  have S1 := Lib.hid s1
  have S2 := Lib.hid s2
  clear h1 h2 hm1 hm2 s1 s2
  obtain ⟨L, b, hj⟩ : ∃ L b, jlR xs ys room = (L, b) := ⟨_, _, rfl⟩
  have HJ := Lib.hid hj
  have HLE := Lib.hid (jlR_le hj)
  cases b
  · rw [meetR_no hj (.inl rfl)] at hv
    cases hv
    clear hj
    go_enter Try.func39, Try.ntmps39
    go_wp2_with fail
    refine (c_spec_JoinLeast a1 n1 c1 xs a2 n2 c2 ys room _ HJ.out M1.out H1.out M2.out H2.out S1.out S2.out).mono ?_; rintro e u1 ⟨a3, c3, rfl, o3, x3⟩
    have X3 := Lib.hid x3
    clear o3 x3
    go_wp2
    go_ret2
    exact ⟨_, rfl, fvz, X3.out⟩
  obtain ⟨m, hm⟩ : ∃ m, L.length = m := ⟨_, rfl⟩
  have HM := Lib.hid hm
  by_cases h0 : m = 0
  · rw [meetR_no hj (.inr (by rw [hm]; exact h0))] at hv
    cases hv
    have HZ := Lib.hid h0
    clear hj hm h0
    go_enter Try.func39, Try.ntmps39
    go_wp2_with fail
    refine (c_spec_JoinLeast a1 n1 c1 xs a2 n2 c2 ys room _ HJ.out M1.out H1.out M2.out H2.out S1.out S2.out).mono ?_; rintro e u1 ⟨a3, c3, rfl, o3, x3⟩
    rw [HM.out, HZ.out]
    have X3 := Lib.hid x3
    clear o3 x3
    go_wp2
    go_ret2
    exact ⟨_, rfl, fvz, X3.out⟩
  · rw [meetR_yes hj (by rw [hm]; omega), hm] at hv
    cases hv
    have hm0 : (m : Int) ≠ 0 := by omega
    have hm2 : ((m : Int) == 0) = false := by simpa using hm0
    have hm3 : ¬ (m : Int) = 0 := hm0
    have hmI : (m : Int) ≤ 1048576 := by have := HLE.out; omega
    have hmN : m ≤ 1048576 := by omega
    have HMB := Lib.hid (show m ≤ 1048576 by have := HLE.out; omega)
    clear hj hm h0
    go_enter Try.func39, Try.ntmps39
    go_wp2_with fail
    refine (c_spec_JoinLeast a1 n1 c1 xs a2 n2 c2 ys room _ HJ.out M1.out H1.out M2.out H2.out S1.out S2.out).mono ?_; rintro e u1 ⟨a3, c3, rfl, o3, x3⟩
    rw [HM.out] at o3 ⊢
    have X3 := Lib.hid x3
    have R3 := Lib.hid o3.reads
    clear o3 x3
    go_wp2
    go_loopw [10, 11] (fun c i wr => ∃ k : Nat, k ≤ m ∧ i = .int .i64 k ∧ c = .int .i64 ((meetC xs ys L k : Nat) : Int) ∧ Ext u1 wr) (fun _ i _ => m - (intOf i).toNat)
    case atStart => exact ⟨0, Nat.zero_le _, rfl, rfl, Ext.refl _⟩
    case round =>
      obtain ⟨k, hk, rfl, rfl, hext⟩ := hrel
      have HQ := Lib.hid hext
      have HE := Lib.hid (X3.out.trans hext)
      by_cases hlt : k < m
      · have hlt' : (k : Int) < (m : Int) := by omega
        rcases R3.out.int.2 with h0 | ⟨g, o, rfl, hc⟩
        · omega
        obtain ⟨x, hx⟩ : ∃ x, L[k]?.getD 0 = x := ⟨_, rfl⟩
        have hcell := HQ.out.some (hc k hlt)
        rw [hx] at hcell
        have HX := Lib.hid (show getI L k = x from hx)
        have hcl := meetC_le xs ys L k
        obtain ⟨c, hcv⟩ : ∃ c, meetC xs ys L k = c := ⟨_, rfl⟩
        rw [hcv] at hcl ⊢
        have HCV := Lib.hid hcv
        have c1' : (c : Int) ≤ 1048576 := by have := HMB.out; omega
        clear hc hext hx hcv
        cases hca : xs.contains x
        · have HCA := Lib.hid hca
          have HN := Lib.hid (show meetC xs ys L (k + 1) = c by rw [meetC_no (by rw [HX.out, hca]; rfl), HCV.out])
          clear hca
          go_wp2_with (first | (go_at_call 86; refine (c_spec_l04Has _ _ _ xs x _ HCA.out M1.out (H1.out.on HE.out)).mono ?_; rintro e w' ⟨rfl, rfl⟩; clear HCA))
          go_roundw
          case rel => exact ⟨k + 1, by omega, by go_num, by rw [HN.out], HQ.out⟩
          case measure => simp [intOf]; omega
        · cases hcb : ys.contains x
          · have HCA := Lib.hid hca
            have HCB := Lib.hid hcb
            have HN := Lib.hid (show meetC xs ys L (k + 1) = c by rw [meetC_no (by rw [HX.out, hcb]; simp), HCV.out])
            clear hca hcb
            go_wp2_with (first | (go_at_call 86; refine (c_spec_l04Has _ _ _ xs x _ HCA.out M1.out (H1.out.on HE.out)).mono ?_; rintro e w' ⟨rfl, rfl⟩; clear HCA) | (go_at_call 86; refine (c_spec_l04Has _ _ _ ys x _ HCB.out M2.out (H2.out.on HE.out)).mono ?_; rintro e w' ⟨rfl, rfl⟩))
            go_roundw
            case rel => exact ⟨k + 1, by omega, by go_num, by rw [HN.out], HQ.out⟩
            case measure => simp [intOf]; omega
          · have HCA := Lib.hid hca
            have HCB := Lib.hid hcb
            have HN := Lib.hid (show meetC xs ys L (k + 1) = c + 1 by rw [meetC_yes (by rw [HX.out, hca, hcb]; rfl), HCV.out])
            clear hca hcb
            go_wp2_with (first | (go_at_call 86; refine (c_spec_l04Has _ _ _ xs x _ HCA.out M1.out (H1.out.on HE.out)).mono ?_; rintro e w' ⟨rfl, rfl⟩; clear HCA) | (go_at_call 86; refine (c_spec_l04Has _ _ _ ys x _ HCB.out M2.out (H2.out.on HE.out)).mono ?_; rintro e w' ⟨rfl, rfl⟩))
            go_roundw
            case rel => exact ⟨k + 1, by omega, by go_num, by rw [HN.out]; go_num, HQ.out⟩
            case measure => simp [intOf]; omega
      · have hkm : k = m := by omega
        subst hkm
        obtain ⟨c, hcv⟩ : ∃ c, meetC xs ys L k = c := ⟨_, rfl⟩
        have HCV := Lib.hid hcv
        rw [hcv]
        have hlt' : ¬ (k : Int) < (k : Int) := by omega
        clear hext hcv
        go_wp2
        go_ret2
        exact ⟨_, rfl, by rw [fv_flR]; unfold meetV; first | rfl | (rw [HCV.out]), HE.out.trans (by (repeat (first | assumption | exact Ext.refl _ | (with_reducible refine Ext.stepS ?_ (by first | exact Nat.le_refl _ | (simp; done) | (simp; omega)) _) | (with_reducible refine Ext.stepN ?_ _) | (with_reducible refine Ext.stepD ?_) | (with_reducible refine Ext.stepA ?_ _))))⟩
end Go.Proofs.Ytjnhflpoddpfnab
