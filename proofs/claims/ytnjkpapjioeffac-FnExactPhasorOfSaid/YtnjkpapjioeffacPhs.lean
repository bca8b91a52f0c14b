/- PhasorOf: the other side; the law's walk. -/
import Derived.Test.YtnjkpapjioeffacPho
namespace Go.Proofs.Ytnjkpapjioeffac
open Go.ChangeShapes Go.WideShapes Go.ChangeAt Go.RowKit Go.Proofs.Ytnjkpapjioeffac.Flo
set_option linter.unusedVariables false
attribute [local go_sem] unary_neg_float run_store_float run_store_complex ext_Float32bits ext_Float64bits ext_Float32frombits ext_Float64frombits ext_sqrt
theorem c_spec_Phasor_nan (x : Nat) (w : World) (hf : isFin .f64 x = false) : Calls Try.prog 36 #[.float .f64 x] w (RetC none none w) := by
  have HF := Lib.hid hf
  clear hf
  go_enter Try.func36, Try.ntmps36
  go_wp2_with fail
  (with_reducible refine upon_fl rfl ?_); intro d nd hd
  have hdz : (FloatKind.f64.format.order d 0 != some .eq) = true := by rw [bne_of_beq (sub_self_val hd.out), HF.out]; rfl
  clear hd
  go_wp2_with go_in
  go_ret
  exact RetC.mk _ nan32 nan32
theorem c_spec_Phasor_far (x : Nat) (w : World) (hi : isFin .f64 x = true) (hb : (FloatKind.f64.format.order x 4841369599423283200 == some .gt || FloatKind.f64.format.order x 4841369599423283200 == some .eq) = true ∨
       ((FloatKind.f64.format.order x 4841369599423283200 == some .gt || FloatKind.f64.format.order x 4841369599423283200 == some .eq) = false ∧ (FloatKind.f64.format.order x 14064741636278059008 == some .lt || FloatKind.f64.format.order x 14064741636278059008 == some .eq) = true)) : Calls Try.prog 36 #[.float .f64 x] w (RetC (some 1065353216) (some 0) w) := by
  have HI := Lib.hid hi
  clear hi
  rcases hb with hb | ⟨hb1, hb2⟩
  all_goals
    go_enter Try.func36, Try.ntmps36
    go_wp2_with fail
    (with_reducible refine upon_fl rfl ?_); intro d nd hd
    have hdz : (FloatKind.f64.format.order d 0 != some .eq) = false := by rw [bne_of_beq (sub_self_val hd.out), HI.out]; rfl
    clear hd
    go_wp2_with fail
    go_ret
    exact RetC.mk _ one32 zero32
set_option maxHeartbeats 8000000 in
theorem c_spec_Phasor_near (x : Nat) (n : Int) (q b1 b2 : Nat) (n1 n2 : Int) (w : World) (hnr : Near x) (P : Phs x n q b1 b2 n1 n2) :
    Calls Try.prog 36 #[.float .f64 x] w (RetC (slim (phRe q (sinF (shareV (some b1) n1)) (sinF (shareV (some b2) n2)))) (slim (phIm q (sinF (shareV (some b1) n1)) (sinF (shareV (some b2) n2)))) w) := by
  have hcv : ∀ wx : World, (convert 22 2 (.float .f64 x)).run Try.prog wx = .ok (.int .i64 n) wx := fun wx => run_convert_float_int wx _ _ _ _ _ _ (by kernel_rfl) (by kernel_rfl) P.whole
  have HP := Lib.hid P
  clear P
  obtain ⟨g1, g2, g3⟩ := hnr
  have G1 := Lib.hid g1
  clear g1
  go_enter Try.func36, Try.ntmps36
  go_wp2_with fail
  (with_reducible refine upon_fl rfl ?_); intro d nd hd
  have hdz : (FloatKind.f64.format.order d 0 != some .eq) = false := by rw [bne_of_beq (sub_self_val hd.out), G1.out]; rfl
  clear hd
  go_wp2_with fail
  (with_reducible refine upon_fl rfl ?_); intro r0 nr0 hr0
  clear hdz g2 g3
  have hcase : ((FloatKind.f64.format.order r0 0 == some .lt) = true ∧ fop .add .f64 (fv .f64 r0) cOne = shareV (fv .f64 x) n) ∨ ((FloatKind.f64.format.order r0 0 == some .lt) = false ∧ fv .f64 r0 = shareV (fv .f64 x) n) := by
    by_cases ht : (FloatKind.f64.format.order r0 0 == some .lt) = true
    · left
      have ht' := ht
      rw [order_ford, hr0.out] at ht'
      exact ⟨ht, by rw [hr0.out, shareV_t ht']⟩
    · right
      have hf : (FloatKind.f64.format.order r0 0 == some .lt) = false := by simpa using ht
      have hf' := hf
      rw [order_ford, hr0.out] at hf'
      exact ⟨hf, by rw [hr0.out, shareV_f hf']⟩
  clear hr0
  rcases hcase with ⟨ht, hR⟩ | ⟨ht, hR⟩
  all_goals have HR0 := Lib.hid hR
  all_goals clear hR
  case' inl =>
    go_wp2_with fail
    (with_reducible refine upon_fl rfl ?_); intro r nr hr
    have HR := Lib.hid (hr.out.trans HR0.out)
    clear ht hr hcv HR0
    go_wp2_with fail
  case' inr =>
    have HR := HR0
    have hr0 : ∃ r, r = r0 := ⟨_, rfl⟩
    obtain ⟨r, rfl⟩ := hr0
    clear HR0
    go_wp2_with fail
    clear ht hcv
  all_goals
    go_loopw [3, 4] (fun f i wr => ∃ (j n p : Nat), j ≤ q ∧ i = .int .i64 (j : Int) ∧ wr = w.drewN n ∧ f = .float .f64 p ∧ fv .f64 p = lessQ (fv .f64 r) j) (fun _ i _ => (10 - intOf i).toNat)
    case atStart => exact ⟨0, _, _, by omega, rfl, rfl, rfl, rfl⟩
    case round =>
      obtain ⟨j, n0, p, hj, rfl, rfl, rfl, hp⟩ := hrel
      by_cases hc : j = q
      · subst hc
        have G := HP.out.stop
        rw [← HR.out, ← hp, ← geQ_iff] at G
        have hb := HP.out.left
        rw [← HR.out, ← hp] at hb
        obtain rfl := fv_eq hb
        have HB := Lib.hid hb
        clear hp hb hj
        go_wp2_with fail
        (with_reducible refine upon_fl rfl ?_); intro r1 nr1 hr1
        have h1 : fv .f64 r1 = some b1 := by rw [hr1.out, HB.out]; exact HP.out.other
        obtain rfl := fv_eq h1
        clear G h1 hr1
        go_wp2_with fail
        refine (c_spec_l01SineWide _ _ _ HP.out.near1 HP.out.int1).mono ?_; rintro e w' ⟨c, k1, rfl, rfl, hc⟩
        have HC := Lib.hid (hc.trans (by rw [fv_fin HP.out.near1.1]))
        clear hc
        go_wp2_with fail
        refine (c_spec_l01SineWide _ _ _ HP.out.near2 HP.out.int2).mono ?_; rintro e w' ⟨s, k2, rfl, rfl, hs⟩
        have HS := Lib.hid (hs.trans (by rw [fv_fin HP.out.near2.1]))
        clear hs
        have hcn : ∀ (wx : World) (y : Nat), (convert 22 28 (.float .f64 y)).run Try.prog wx = .ok (.float .f32 (convR wx .f64 y .f32)) (wx.drewN (convD .f64 y .f32)) := fun wx y => run_conv wx _ _ _ _ _ (by kernel_rfl) (by kernel_rfl)
        have hq := HP.out.few
        have hcs : j = 1 ∨ j = 2 ∨ j = 3 ∨ j = 0 ∨ j = 4 ∨ j = 5 ∨ j = 6 ∨ j = 7 ∨ j = 8 ∨ j = 9 := by omega
        clear hq
        rcases hcs with rfl | rfl | rfl | hcs
        · go_wp2_with fail
          (with_reducible refine upon_fl rfl ?_); intro z nz hz
          go_wp2_with go_in
          go_ret
          exact RetC.mk _ (slimR_eq _ (by rw [hz.out, HS.out]; rfl) (ph_ok HP.out.ok1 HP.out.ok2).1) (slimR_eq _ (by rw [HC.out]; rfl) (ph_ok HP.out.ok1 HP.out.ok2).2)
        · go_wp2_with fail
          (with_reducible refine upon_fl rfl ?_); intro z nz hz
          go_wp2_with go_in
          (with_reducible refine upon_fl rfl ?_); intro y ny hy
          go_wp2_with go_in
          go_ret
          exact RetC.mk _ (slimR_eq _ (by rw [hz.out, HC.out]; rfl) (ph_ok HP.out.ok1 HP.out.ok2).1) (slimR_eq _ (by rw [hy.out, HS.out]; rfl) (ph_ok HP.out.ok1 HP.out.ok2).2)
        · go_wp2_with go_in
          (with_reducible refine upon_fl rfl ?_); intro z nz hz
          go_wp2_with go_in
          go_ret
          exact RetC.mk _ (slimR_eq _ (by rw [HS.out]; rfl) (ph_ok HP.out.ok1 HP.out.ok2).1) (slimR_eq _ (by rw [hz.out, HC.out]; rfl) (ph_ok HP.out.ok1 HP.out.ok2).2)
        · rcases hcs with rfl | rfl | rfl | rfl | rfl | rfl | rfl
          all_goals
            go_wp2_with go_in
            go_ret
            exact RetC.mk _ (slimR_eq _ (by rw [HC.out]; rfl) (ph_ok HP.out.ok1 HP.out.ok2).1) (slimR_eq _ (by rw [HS.out]; rfl) (ph_ok HP.out.ok1 HP.out.ok2).2)
      · have G := HP.out.go j (by omega)
        rw [← HR.out, ← hp, ← geQ_iff] at G
        have HPP := Lib.hid hp
        clear hp
        have hq := HP.out.few
        go_wp2_with fail
        (with_reducible refine upon_fl rfl ?_); intro r1 nr1 hr1
        go_wp2
        go_roundw
        case rel => exact ⟨j + 1, _, r1, by omega, by rw [Int.natCast_add]; rfl, rfl, rfl, by rw [hr1.out, HPP.out]; rfl⟩
        case measure => simp [intOf]; omega
theorem c_spec_Phasor_of (x : Nat) (w : World) {re im : Option Nat} (c : ∀ w, Calls Try.prog 36 #[.float .f64 x] w (RetC re im w)) : Calls Try.prog 12 #[.float .f64 x] w (RetC re im w) := by
  have C := Lib.hid c
  clear c
  go_enter Try.func12, Try.ntmps12
  go_wp2_with (go_at_call 36; refine (C.out _).mono ?_; rintro e w' ⟨a, b, n, rfl, rfl, h1, h2⟩)
  go_ret
  exact RetC.mk _ h1 h2
theorem c_both_Phasor (x : Nat) (h : x < 18446744073709551616) : ∃ re im, (∀ w, Calls Try.prog 13 #[.float .f64 x] w (RetC re im w)) ∧ (∀ w, Calls Try.prog 12 #[.float .f64 x] w (RetC re im w)) := by
  cases hf : isFin .f64 x with
  | false => exact ⟨none, none, fun w => c_impl_Phasor_nan x w h hf, fun w => c_spec_Phasor_of x w fun w => c_spec_Phasor_nan x w hf⟩
  | true =>
    cases hd : FloatKind.f64.decode x with
    | nan s t => unfold isFin at hf; rw [hd] at hf; cases hf
    | infinity s => unfold isFin at hf; rw [hd] at hf; cases hf
    | number s m e =>
      rcases near_cases hd with ⟨h1, h2, h3⟩ | ⟨h1, h2⟩
      · obtain ⟨n, q, b1, b2, n1, n2, P⟩ := phs_ex hd h1
        exact ⟨_, _, fun w => c_impl_Phasor_near x n q b1 b2 n1 n2 w h hf h3 P, fun w => c_spec_Phasor_of x w fun w => c_spec_Phasor_near x n q b1 b2 n1 n2 w h2 P⟩
      · exact ⟨_, _, fun w => c_impl_Phasor_far x w h hf h1, fun w => c_spec_Phasor_of x w fun w => c_spec_Phasor_far x w hf h2⟩
theorem c_sameComplex (a b c d : Nat) (w : World) (h : fv .f64 a = fv .f64 c) (h' : fv .f64 b = fv .f64 d) : Calls Try.prog 14 #[.complex .f64 a b, .complex .f64 c d] w fun e w' => e = .returned (.bool true) ∧ ∃ n, w' = w.drewN n := by
  have H := Lib.hid h
  have H' := Lib.hid h'
  clear h h'
  go_enter Try.func14, Try.ntmps14
  go_wp2_with fail
  refine (c_sameFloat a c _ H.out).mono ?_; rintro e w' ⟨rfl, n, rfl⟩
  go_wp2_with fail
  refine (c_sameFloat b d _ H'.out).mono ?_; rintro e w' ⟨rfl, m, rfl⟩
  go_wp2
  go_ret
  exact ⟨rfl, _, rfl⟩
theorem walk_FnExactPhasorOf (a0 : Nat) (w : World) (w0 : (Lit.float .f64 a0).wf = true) :
    Calls Try.prog 3 #[.float .f64 a0] w fun e w' => e = .returned (.bool true) ∧ Below w.heap.size w w' := by
  have h0 := wf64 w0
  clear w0
  obtain ⟨re, im, c1, c2⟩ := c_both_Phasor a0 h0
  have C1 := Lib.hid c1
  have C2 := Lib.hid c2
  clear c1 c2
  go_enter Try.func3, Try.ntmps3
  go_wp2_with fail
  refine (C2.out _).mono ?_; rintro e w' ⟨a, b, n, rfl, rfl, hv, hu⟩
  have HV := Lib.hid hv
  have HU := Lib.hid hu
  clear hv hu
  go_wp2_with fail
  refine (C1.out _).mono ?_; rintro e w' ⟨a', b', n', rfl, rfl, hv', hu'⟩
  have HV' := Lib.hid hv'
  have HU' := Lib.hid hu'
  clear hv' hu'
  have hcv : ∀ (wx : World) (a b : Nat), (convert 23 26 (.complex .f32 a b)).run Try.prog wx = .ok (.complex .f64 (convR wx .f32 a .f64) (convR (wx.drewN (convD .f32 a .f64)) .f32 b .f64)) ((wx.drewN (convD .f32 a .f64)).drewN (convD .f32 b .f64)) := fun wx a b => run_conv_c wx _ _ _ _ (by kernel_rfl) (by kernel_rfl)
  go_wp2_with fail
  refine (c_sameComplex _ _ _ _ _ (by rw [fv_wideR, fv_wideR, HV.out, HV'.out]) (by rw [fv_wideR, fv_wideR, HU.out, HU'.out])).mono ?_; rintro e w' ⟨rfl, m, rfl⟩
  go_wp2
  go_ret
  exact ⟨rfl, wbelow _ _⟩
end Go.Proofs.Ytnjkpapjioeffac
