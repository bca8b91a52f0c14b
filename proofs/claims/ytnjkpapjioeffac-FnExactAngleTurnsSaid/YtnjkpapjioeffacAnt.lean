/- AngleTurns: both functions answer the same; the law's walk. -/
import Derived.Test.YtnjkpapjioeffacAns
namespace Go.Proofs.Ytnjkpapjioeffac
open Go.ChangeShapes Go.WideShapes Go.ChangeAt Go.RowKit Go.Proofs.Ytnjkpapjioeffac.Flo
set_option linter.unusedVariables false
attribute [local go_sem] unary_neg_float run_store_float run_store_complex ext_Float32bits ext_Float64bits ext_Float32frombits ext_Float64frombits ext_sqrt

theorem order_abs {Y X : Nat} {s s' : Bool} {m n : Nat} {i j : Int} (hY : FloatKind.f64.decode Y = .number s m i) (hX : FloatKind.f64.decode X = .number s' n j) :
    FloatKind.f64.decode (Y % 9223372036854775808) = .number false m i ∧ FloatKind.f64.decode (X % 9223372036854775808) = .number false n j ∧
    FloatKind.f64.format.order (Y % 9223372036854775808) (X % 9223372036854775808) = some (compare ((m <<< (i - min i j).toNat : Nat) : Int) ((n <<< (j - min i j).toNat : Nat) : Int)) := by
  have h1 : FloatKind.f64.decode (Y % 9223372036854775808) = Dabs (FloatKind.f64.decode Y) := read_abs Ieee.double Y
  have h2 : FloatKind.f64.decode (X % 9223372036854775808) = Dabs (FloatKind.f64.decode X) := read_abs Ieee.double X
  rw [hY] at h1
  rw [hX] at h2
  refine ⟨h1, h2, ?_⟩
  have h3 : FloatKind.f64.format.order (Y % 9223372036854775808) (X % 9223372036854775808) = (FloatKind.f64.decode (Y % 9223372036854775808)).order (FloatKind.f64.decode (X % 9223372036854775808)) := rfl
  rw [h3, h1, h2]; rfl

theorem bd_tan {Y X : Nat} {s s' : Bool} {m n : Nat} {i j : Int} (hY : FloatKind.f64.decode Y = .number s m i) (hX : FloatKind.f64.decode X = .number s' n j) (hz : ¬ (m = 0 ∧ n = 0)) :
    Bd .f64 (angT (FloatKind.f64.format.order (Y % 9223372036854775808) (X % 9223372036854775808) == some .gt) (fv .f64 (Y % 9223372036854775808)) (fv .f64 (X % 9223372036854775808))) 0 := by
  obtain ⟨h1, h2, h3⟩ := order_abs hY hX
  rw [h3]
  have hp := Nat.two_pow_pos (i - min i j).toNat
  have hp' := Nat.two_pow_pos (j - min i j).toNat
  by_cases hlt : n <<< (j - min i j).toNat < m <<< (i - min i j).toNat
  · rw [cmp_gt (by omega)]
    have hm : m ≠ 0 := by
      intro h; rw [h, Nat.zero_shiftLeft] at hlt; exact absurd hlt (Nat.not_lt_zero _)
    show Bd .f64 (fop .quo .f64 (fv .f64 (X % 9223372036854775808)) (fv .f64 (Y % 9223372036854775808))) 0
    refine quo_one h2 h1 hm ?_
    have hc : min j i = min i j := Int.min_comm _ _
    rw [hc]
    exact Nat.le_of_lt hlt
  · have hn : n ≠ 0 := by
      intro h
      rw [h, Nat.zero_shiftLeft, Nat.shiftLeft_eq] at hlt
      have : m * 2 ^ (i - min i j).toNat = 0 := by omega
      rcases Nat.mul_eq_zero.1 this with h' | h'
      · exact hz ⟨h', h⟩
      · omega
    have hg : (some (compare ((m <<< (i - min i j).toNat : Nat) : Int) ((n <<< (j - min i j).toNat : Nat) : Int)) == some Ordering.gt) = false := by
      by_cases he : m <<< (i - min i j).toNat = n <<< (j - min i j).toNat
      · rw [cmp_eq (by omega)]; rfl
      · rw [cmp_lt (by omega)]; rfl
    rw [hg]
    show Bd .f64 (fop .quo .f64 (fv .f64 (Y % 9223372036854775808)) (fv .f64 (X % 9223372036854775808))) 0
    exact quo_one h1 h2 hn (by omega)
set_option maxHeartbeats 8000000 in
theorem c_impl_AngleTurns (y x WY WX : Nat) (w : World) (ov xn yn : Bool)
    (fy : isFin .f32 y = true) (fx : isFin .f32 x = true) (ly : y < 4294967296) (lx : x < 4294967296) (hY : WY < 18446744073709551616) (hX : WX < 18446744073709551616)
    (RY : ∀ w, convR w .f32 y .f64 = WY) (DY : convD .f32 y .f64 = 0) (RX : ∀ w, convR w .f32 x .f64 = WX) (DX : convD .f32 x .f64 = 0)
    (zx zy : Bool) (ey : (FloatKind.f32.format.order y 0 == some .eq) = zy) (ex : (FloatKind.f32.format.order x 0 == some .eq) = zx) (hz : (zx && zy) = false)
    (ho : (FloatKind.f64.format.order (WY % 9223372036854775808) (WX % 9223372036854775808) == some .gt) = ov) (hx : (FloatKind.f32.format.order x 0 == some .lt) = xn) (hy : (FloatKind.f32.format.order y 0 == some .lt) = yn)
    (hok : slimOk (angV ov xn yn (fv .f64 (WY % 9223372036854775808)) (fv .f64 (WX % 9223372036854775808)))) :
    Calls Try.prog 21 #[.float .f32 y, .float .f32 x] w (RetG .f32 (slim (angV ov xn yn (fv .f64 (WY % 9223372036854775808)) (fv .f64 (WX % 9223372036854775808)))) w) := by
  have hcy : ∀ wx : World, (convert 28 22 (.float .f32 y)).run Try.prog wx = .ok (.float .f64 WY) wx := fun wx => by
    rw [run_conv wx _ _ _ _ _ (by kernel_rfl) (by kernel_rfl), RY, DY]; rfl
  have hcx : ∀ wx : World, (convert 28 22 (.float .f32 x)).run Try.prog wx = .ok (.float .f64 WX) wx := fun wx => by
    rw [run_conv wx _ _ _ _ _ (by kernel_rfl) (by kernel_rfl), RX, DX]; rfl
  generalize hV : angV ov xn yn (fv .f64 (WY % 9223372036854775808)) (fv .f64 (WX % 9223372036854775808)) = V at hok ⊢
  have HV := Lib.hid hV
  have HO := Lib.hid hok
  have HXN := Lib.hid hx
  have HYN := Lib.hid hy
  have EX := Lib.hid ex
  clear RY DY RX DX hok hx hy ex hV
  have CY := fun (wx : World) => c_impl_IsFinite y wx ly
  have CX := fun (wx : World) => c_impl_IsFinite x wx lx
  rw [fy] at CY
  rw [fx] at CX
  have HCY := Lib.hid CY
  have HCX := Lib.hid CX
  clear CY CX fy fx
  cases ov
  all_goals
    cases zy
    case false =>
      go_enter Try.func21, Try.ntmps21
      go_wp2_with fail
      refine (HCY.out _).mono ?_; rintro e w' ⟨rfl, n1, rfl⟩
      go_wp2_with fail
      refine (HCX.out _).mono ?_; rintro e w' ⟨rfl, n2, rfl⟩
      go_wp2_with (go_at_call 39; first | (refine (c_Abs _ _ hY).mono ?_; rintro e w' ⟨rfl, rfl⟩) | (refine (c_Abs _ _ hX).mono ?_; rintro e w' ⟨rfl, rfl⟩))
      (with_reducible refine upon_fl rfl ?_); intro t0 nt0 ht0
      go_wp2_with fail
      refine (c_impl_flatAngle _ _).mono ?_; rintro e w' ⟨r, n3, rfl, rfl, hr⟩
      have HR := Lib.hid hr
      clear hr
      cases xn
      all_goals
        have hxn := HXN.out
        cases yn
        all_goals
          have hyn := HYN.out
          first
            | (go_wp2_with fail
               (with_reducible refine upon_fl rfl ?_); intro g1 ng1 hg1
               go_wp2_with fail
               (with_reducible refine upon_fl rfl ?_); intro g2 ng2 hg2
               clear hcy hcx
               have hcn : ∀ (wx : World) (b : Nat), (convert 22 28 (.float .f64 b)).run Try.prog wx = .ok (.float .f32 (convR wx .f64 b .f32)) (wx.drewN (convD .f64 b .f32)) := fun wx b => run_conv wx _ _ _ _ _ (by kernel_rfl) (by kernel_rfl)
               go_wp2_with go_in
               go_ret
               refine RetG.mk _ ?_
               have ho2 := HO.out
               first
                 | (have hv : fv .f64 g2 = V := by rw [← HV.out, hg2.out, hg1.out, HR.out, ht0.out]; rfl
                    rw [← hv] at ho2
                    rw [fv_slimR _ _ ho2, hv])
                 | (have hv : fv .f64 (Op.negFloat .f64 g2) = V := by rw [← HV.out, fv_neg, hg2.out, hg1.out, HR.out, ht0.out]; rfl
                    rw [← hv] at ho2
                    rw [fv_slimR _ _ ho2, hv]))
            | (go_wp2_with fail
               (with_reducible refine upon_fl rfl ?_); intro g1 ng1 hg1
               clear hcy hcx
               have hcn : ∀ (wx : World) (b : Nat), (convert 22 28 (.float .f64 b)).run Try.prog wx = .ok (.float .f32 (convR wx .f64 b .f32)) (wx.drewN (convD .f64 b .f32)) := fun wx b => run_conv wx _ _ _ _ _ (by kernel_rfl) (by kernel_rfl)
               go_wp2_with go_in
               go_ret
               refine RetG.mk _ ?_
               have ho2 := HO.out
               first
                 | (have hv : fv .f64 g1 = V := by rw [← HV.out, hg1.out, HR.out, ht0.out]; rfl
                    rw [← hv] at ho2
                    rw [fv_slimR _ _ ho2, hv])
                 | (have hv : fv .f64 (Op.negFloat .f64 g1) = V := by rw [← HV.out, fv_neg, hg1.out, HR.out, ht0.out]; rfl
                    rw [← hv] at ho2
                    rw [fv_slimR _ _ ho2, hv]))
            | (clear hcy hcx
               have hcn : ∀ (wx : World) (b : Nat), (convert 22 28 (.float .f64 b)).run Try.prog wx = .ok (.float .f32 (convR wx .f64 b .f32)) (wx.drewN (convD .f64 b .f32)) := fun wx b => run_conv wx _ _ _ _ _ (by kernel_rfl) (by kernel_rfl)
               go_wp2_with go_in
               go_ret
               refine RetG.mk _ ?_
               have ho2 := HO.out
               first
                 | (have hv : fv .f64 r = V := by rw [← HV.out, HR.out, ht0.out]; rfl
                    rw [← hv] at ho2
                    rw [fv_slimR _ _ ho2, hv])
                 | (have hv : fv .f64 (Op.negFloat .f64 r) = V := by rw [← HV.out, fv_neg, HR.out, ht0.out]; rfl
                    rw [← hv] at ho2
                    rw [fv_slimR _ _ ho2, hv]))
    case true =>
      cases zx
      case true => cases hz
      case false =>
        have hex := EX.out
        go_enter Try.func21, Try.ntmps21
        go_wp2_with fail
        refine (HCY.out _).mono ?_; rintro e w' ⟨rfl, n1, rfl⟩
        go_wp2_with fail
        refine (HCX.out _).mono ?_; rintro e w' ⟨rfl, n2, rfl⟩
        go_wp2_with (go_at_call 39; first | (refine (c_Abs _ _ hY).mono ?_; rintro e w' ⟨rfl, rfl⟩) | (refine (c_Abs _ _ hX).mono ?_; rintro e w' ⟨rfl, rfl⟩))
        (with_reducible refine upon_fl rfl ?_); intro t0 nt0 ht0
        go_wp2_with fail
        refine (c_impl_flatAngle _ _).mono ?_; rintro e w' ⟨r, n3, rfl, rfl, hr⟩
        have HR := Lib.hid hr
        clear hr
        cases xn
        all_goals
          have hxn := HXN.out
          cases yn
          all_goals
            have hyn := HYN.out
            first
              | (go_wp2_with fail
                 (with_reducible refine upon_fl rfl ?_); intro g1 ng1 hg1
                 go_wp2_with fail
                 (with_reducible refine upon_fl rfl ?_); intro g2 ng2 hg2
                 clear hcy hcx
                 have hcn : ∀ (wx : World) (b : Nat), (convert 22 28 (.float .f64 b)).run Try.prog wx = .ok (.float .f32 (convR wx .f64 b .f32)) (wx.drewN (convD .f64 b .f32)) := fun wx b => run_conv wx _ _ _ _ _ (by kernel_rfl) (by kernel_rfl)
                 go_wp2_with go_in
                 go_ret
                 refine RetG.mk _ ?_
                 have ho2 := HO.out
                 first
                   | (have hv : fv .f64 g2 = V := by rw [← HV.out, hg2.out, hg1.out, HR.out, ht0.out]; rfl
                      rw [← hv] at ho2
                      rw [fv_slimR _ _ ho2, hv])
                   | (have hv : fv .f64 (Op.negFloat .f64 g2) = V := by rw [← HV.out, fv_neg, hg2.out, hg1.out, HR.out, ht0.out]; rfl
                      rw [← hv] at ho2
                      rw [fv_slimR _ _ ho2, hv]))
              | (go_wp2_with fail
                 (with_reducible refine upon_fl rfl ?_); intro g1 ng1 hg1
                 clear hcy hcx
                 have hcn : ∀ (wx : World) (b : Nat), (convert 22 28 (.float .f64 b)).run Try.prog wx = .ok (.float .f32 (convR wx .f64 b .f32)) (wx.drewN (convD .f64 b .f32)) := fun wx b => run_conv wx _ _ _ _ _ (by kernel_rfl) (by kernel_rfl)
                 go_wp2_with go_in
                 go_ret
                 refine RetG.mk _ ?_
                 have ho2 := HO.out
                 first
                   | (have hv : fv .f64 g1 = V := by rw [← HV.out, hg1.out, HR.out, ht0.out]; rfl
                      rw [← hv] at ho2
                      rw [fv_slimR _ _ ho2, hv])
                   | (have hv : fv .f64 (Op.negFloat .f64 g1) = V := by rw [← HV.out, fv_neg, hg1.out, HR.out, ht0.out]; rfl
                      rw [← hv] at ho2
                      rw [fv_slimR _ _ ho2, hv]))
              | (clear hcy hcx
                 have hcn : ∀ (wx : World) (b : Nat), (convert 22 28 (.float .f64 b)).run Try.prog wx = .ok (.float .f32 (convR wx .f64 b .f32)) (wx.drewN (convD .f64 b .f32)) := fun wx b => run_conv wx _ _ _ _ _ (by kernel_rfl) (by kernel_rfl)
                 go_wp2_with go_in
                 go_ret
                 refine RetG.mk _ ?_
                 have ho2 := HO.out
                 first
                   | (have hv : fv .f64 r = V := by rw [← HV.out, HR.out, ht0.out]; rfl
                      rw [← hv] at ho2
                      rw [fv_slimR _ _ ho2, hv])
                   | (have hv : fv .f64 (Op.negFloat .f64 r) = V := by rw [← HV.out, fv_neg, HR.out, ht0.out]; rfl
                      rw [← hv] at ho2
                      rw [fv_slimR _ _ ho2, hv]))
theorem c_impl_AngleTurns_nan (y x : Nat) (w : World) (ly : y < 4294967296) (lx : x < 4294967296) (hf : isFin .f32 y = false ∨ isFin .f32 x = false) : Calls Try.prog 21 #[.float .f32 y, .float .f32 x] w (RetG .f32 none w) := by
  have hcn : ∀ wx : World, (convert 22 28 (.float .f64 9221120237041090561)).run Try.prog wx = .ok (.float .f32 (convR wx .f64 9221120237041090561 .f32)) (wx.drewN (convD .f64 9221120237041090561 .f32)) := fun wx => run_conv wx _ _ _ _ _ (by kernel_rfl) (by kernel_rfl)
  have CY := fun (wx : World) => c_impl_IsFinite y wx ly
  have CX := fun (wx : World) => c_impl_IsFinite x wx lx
  cases hy : isFin .f32 y with
  | false =>
    rw [hy] at CY
    have HCY := Lib.hid CY
    clear CY CX hf hy
    go_enter Try.func21, Try.ntmps21
    go_wp2_with fail
    refine (HCY.out _).mono ?_; rintro e w' ⟨rfl, n1, rfl⟩
    go_wp2_with (go_at_call 38; refine (c_math_NaN _).mono ?_; rintro e w' ⟨rfl, rfl⟩)
    go_ret
    exact RetG.mk _ (by rw [fv_slimR _ _ (.inl nan64), nan64]; rfl)
  | true =>
    have hx : isFin .f32 x = false := by rcases hf with h | h; rw [hy] at h; cases h; exact h
    rw [hy] at CY
    rw [hx] at CX
    have HCY := Lib.hid CY
    have HCX := Lib.hid CX
    clear CY CX hf hy hx
    go_enter Try.func21, Try.ntmps21
    go_wp2_with fail
    refine (HCY.out _).mono ?_; rintro e w' ⟨rfl, n1, rfl⟩
    go_wp2_with fail
    refine (HCX.out _).mono ?_; rintro e w' ⟨rfl, n2, rfl⟩
    go_wp2_with (go_at_call 38; refine (c_math_NaN _).mono ?_; rintro e w' ⟨rfl, rfl⟩)
    go_ret
    exact RetG.mk _ (by rw [fv_slimR _ _ (.inl nan64), nan64]; rfl)
theorem c_impl_AngleTurns_zero (y x : Nat) (w : World) (ly : y < 4294967296) (lx : x < 4294967296) (fy : isFin .f32 y = true) (fx : isFin .f32 x = true) (ey : (FloatKind.f32.format.order y 0 == some .eq) = true) (ex : (FloatKind.f32.format.order x 0 == some .eq) = true) : Calls Try.prog 21 #[.float .f32 y, .float .f32 x] w (RetG .f32 (some 0) w) := by
  have CY := fun (wx : World) => c_impl_IsFinite y wx ly
  have CX := fun (wx : World) => c_impl_IsFinite x wx lx
  rw [fy] at CY
  rw [fx] at CX
  have HCY := Lib.hid CY
  have HCX := Lib.hid CX
  clear CY CX fy fx
  go_enter Try.func21, Try.ntmps21
  go_wp2_with fail
  refine (HCY.out _).mono ?_; rintro e w' ⟨rfl, n1, rfl⟩
  go_wp2_with fail
  refine (HCX.out _).mono ?_; rintro e w' ⟨rfl, n2, rfl⟩
  go_wp2
  go_ret
  exact RetG.mk _ rfl
theorem c_spec_AngleWide_nan (Y X : Nat) (w : World) (hf : isFin .f64 Y = false ∨ isFin .f64 X = false) : Calls Try.prog 69 #[.float .f64 Y, .float .f64 X] w (RetG .f64 none w) := by
  cases hy : isFin .f64 Y with
  | false =>
    have HY := Lib.hid hy
    clear hy hf
    go_enter Try.func69, Try.ntmps69
    go_wp2_with fail
    (with_reducible refine upon_fl rfl ?_); intro d nd hd
    have hdz : (FloatKind.f64.format.order d 0 != some .eq) = true := by rw [bne_of_beq (sub_self_val hd.out), HY.out]; rfl
    clear hd
    go_wp2_with (go_at_call 38; refine (c_math_NaN _).mono ?_; rintro e w' ⟨rfl, rfl⟩)
    go_ret
    exact RetG.mk _ nan64
  | true =>
    have hx : isFin .f64 X = false := by rcases hf with h | h; rw [hy] at h; cases h; exact h
    have HY := Lib.hid hy
    have HX := Lib.hid hx
    clear hy hf hx
    go_enter Try.func69, Try.ntmps69
    go_wp2_with fail
    (with_reducible refine upon_fl rfl ?_); intro d nd hd
    have hdz : (FloatKind.f64.format.order d 0 != some .eq) = false := by rw [bne_of_beq (sub_self_val hd.out), HY.out]; rfl
    clear hd
    go_wp2_with fail
    (with_reducible refine upon_fl rfl ?_); intro d' nd' hd'
    have hdz' : (FloatKind.f64.format.order d' 0 != some .eq) = true := by rw [bne_of_beq (sub_self_val hd'.out), HX.out]; rfl
    clear hd'
    go_wp2_with (go_at_call 38; refine (c_math_NaN _).mono ?_; rintro e w' ⟨rfl, rfl⟩)
    go_ret
    exact RetG.mk _ nan64
theorem c_spec_AngleWide_zero (Y X : Nat) (w : World) (fy : isFin .f64 Y = true) (fx : isFin .f64 X = true) (ey : (FloatKind.f64.format.order Y 0 == some .eq) = true) (ex : (FloatKind.f64.format.order X 0 == some .eq) = true) : Calls Try.prog 69 #[.float .f64 Y, .float .f64 X] w (RetG .f64 (some 0) w) := by
  have HY := Lib.hid fy
  have HX := Lib.hid fx
  clear fy fx
  go_enter Try.func69, Try.ntmps69
  go_wp2_with fail
  (with_reducible refine upon_fl rfl ?_); intro d nd hd
  have hdz : (FloatKind.f64.format.order d 0 != some .eq) = false := by rw [bne_of_beq (sub_self_val hd.out), HY.out]; rfl
  clear hd
  go_wp2_with fail
  (with_reducible refine upon_fl rfl ?_); intro d' nd' hd'
  have hdz' : (FloatKind.f64.format.order d' 0 != some .eq) = false := by rw [bne_of_beq (sub_self_val hd'.out), HX.out]; rfl
  clear hd'
  go_wp2_with fail
  go_ret
  exact RetG.mk _ rfl
/-- narrowed, whatever the wide function answers -/
theorem c_spec_AngleTurns_of (y x : Nat) (w : World) (V : Option Nat) (hok : slimOk V)
    (c : ∀ wx wy wz, Calls Try.prog 69 #[.float .f64 (convR wy .f32 y .f64), .float .f64 (convR wz .f32 x .f64)] wx (RetG .f64 V wx)) :
    Calls Try.prog 20 #[.float .f32 y, .float .f32 x] w (RetG .f32 (slim V) w) := by
  have hcy : ∀ wx : World, (convert 28 22 (.float .f32 y)).run Try.prog wx = .ok (.float .f64 (convR wx .f32 y .f64)) (wx.drewN (convD .f32 y .f64)) := fun wx => run_conv wx _ _ _ _ _ (by kernel_rfl) (by kernel_rfl)
  have hcx : ∀ wx : World, (convert 28 22 (.float .f32 x)).run Try.prog wx = .ok (.float .f64 (convR wx .f32 x .f64)) (wx.drewN (convD .f32 x .f64)) := fun wx => run_conv wx _ _ _ _ _ (by kernel_rfl) (by kernel_rfl)
  have C := Lib.hid c
  have HO := Lib.hid hok
  clear c hok
  have c2 : ∀ wx, Calls Try.prog 49 #[.float .f32 y, .float .f32 x] wx (RetG .f32 (slim V) wx) := by
    intro wx
    go_enter Try.func49, Try.ntmps49
    go_wp2_with fail
    refine (C.out _ _ _).mono ?_; rintro e w' ⟨r, n, rfl, rfl, hr⟩
    have HR := Lib.hid hr
    clear hr hcy hcx
    have hcn : ∀ wx : World, (convert 22 28 (.float .f64 r)).run Try.prog wx = .ok (.float .f32 (convR wx .f64 r .f32)) (wx.drewN (convD .f64 r .f32)) := fun wx => run_conv wx _ _ _ _ _ (by kernel_rfl) (by kernel_rfl)
    go_wp2_with go_in
    go_ret
    refine RetG.mk _ ?_
    have ho := HO.out
    rw [← HR.out] at ho
    rw [fv_slimR _ _ ho, HR.out]
  have C2 := Lib.hid c2
  clear c2 hcy hcx
  go_enter Try.func20, Try.ntmps20
  go_wp2_with (go_at_call 49; refine (C2.out _).mono ?_; rintro e w' ⟨r, n, rfl, rfl, hr⟩)
  go_ret
  exact RetG.mk _ hr
theorem slim_some0 : slim (some 0) = some 0 := by kernel_rfl
theorem c_both_AngleTurns (y x : Nat) (ly : y < 4294967296) (lx : x < 4294967296) : ∃ v, (∀ w, Calls Try.prog 21 #[.float .f32 y, .float .f32 x] w (RetG .f32 v w)) ∧ (∀ w, Calls Try.prog 20 #[.float .f32 y, .float .f32 x] w (RetG .f32 v w)) := by
  by_cases hf : isFin .f32 y = false ∨ isFin .f32 x = false
  · refine ⟨none, fun w => c_impl_AngleTurns_nan y x w ly lx hf, fun w => ?_⟩
    exact c_spec_AngleTurns_of y x w none (.inl rfl) (fun wx wy wz => c_spec_AngleWide_nan _ _ _ (by rw [wide_finite, wide_finite]; exact hf))
  · have fy : isFin .f32 y = true := by cases h : isFin .f32 y; exact absurd (.inl h) hf; rfl
    have fx : isFin .f32 x = true := by cases h : isFin .f32 x; exact absurd (.inr h) hf; rfl
    obtain ⟨WY, s, m, e, m', e', RY, DY, hY, gy, dy, dY, zy⟩ := wide_num fy
    obtain ⟨WX, s2, n, i, n', i', RX, DX, hX, gx, dx, dX, zx⟩ := wide_num fx
    have ay := sign_num dy
    have aY := sign_num dY
    have ax := sign_num dx
    have aX := sign_num dX
    have qy : decide (m' = 0) = decide (m = 0) := by rw [decide_eq_decide]; exact zy
    have qx : decide (n' = 0) = decide (n = 0) := by rw [decide_eq_decide]; exact zx
    have qy' : decide (m' ≠ 0) = decide (m ≠ 0) := by rw [decide_eq_decide]; exact not_congr zy
    have qx' : decide (n' ≠ 0) = decide (n ≠ 0) := by rw [decide_eq_decide]; exact not_congr zx
    rw [qy, qy'] at aY
    rw [qx, qx'] at aX
    by_cases hz : m = 0 ∧ n = 0
    · have t1 : decide (m = 0) = true := decide_eq_true hz.1
      have t2 : decide (n = 0) = true := decide_eq_true hz.2
      rw [t1] at ay aY
      rw [t2] at ax aX
      refine ⟨some 0, fun w => c_impl_AngleTurns_zero y x w ly lx fy fx ay.1 ax.1, fun w => ?_⟩
      have := c_spec_AngleTurns_of y x w (some 0) (.inr (by rw [slim_some0]; rfl)) (fun wx wy wz => by rw [RY, RX]; exact c_spec_AngleWide_zero WY WX _ gy gx aY.1 aX.1)
      rw [slim_some0] at this
      exact this
    · have hzb : (decide (n = 0) && decide (m = 0)) = false := by
        cases h1 : decide (n = 0) <;> cases h2 : decide (m = 0) <;> simp_all
      have hb := bd_ang (xn := s2 && decide (n ≠ 0)) (yn := s && decide (m ≠ 0)) (bd_tan dY dX (fun h => hz ⟨zy.1 h.1, zx.1 h.2⟩))
      have hok := hb.slim (by omega)
      refine ⟨_, fun w => c_impl_AngleTurns y x WY WX w _ _ _ fy fx ly lx hY hX RY DY RX DX _ _ ay.1 ax.1 hzb rfl ax.2 ay.2 hok, fun w => ?_⟩
      exact c_spec_AngleTurns_of y x w _ hok (fun wx wy wz => by rw [RY, RX]; exact c_spec_l01AngleWide WY WX _ _ _ _ hY hX gy gx _ _ aX.1 aY.1 hzb rfl aX.2 aY.2)
theorem walk_FnExactAngleTurns (a0 a1 : Nat) (w : World) (w0 : (Lit.float .f32 a0).wf = true) (w1 : (Lit.float .f32 a1).wf = true) :
    Calls Try.prog 6 #[.float .f32 a0, .float .f32 a1] w fun e w' => e = .returned (.bool true) ∧ Below w.heap.size w w' := by
  have h0 := wf32 w0
  have h1 := wf32 w1
  clear w0 w1
  obtain ⟨v, c1, c2⟩ := c_both_AngleTurns a0 a1 h0 h1
  have C1 := Lib.hid c1
  have C2 := Lib.hid c2
  clear c1 c2
  go_enter Try.func6, Try.ntmps6
  go_wp2_with fail
  refine (C2.out _).mono ?_; rintro e w' ⟨r, n, rfl, rfl, hv⟩
  have HV := Lib.hid hv
  clear hv
  go_wp2_with fail
  refine (C1.out _).mono ?_; rintro e w' ⟨r', n', rfl, rfl, hv'⟩
  have HV' := Lib.hid hv'
  clear hv'
  have hcv : ∀ (wx : World) (y : Nat), (convert 28 22 (.float .f32 y)).run Try.prog wx = .ok (.float .f64 (convR wx .f32 y .f64)) (wx.drewN (convD .f32 y .f64)) := fun wx y => run_conv wx _ _ _ _ _ (by kernel_rfl) (by kernel_rfl)
  go_wp2_with fail
  refine (c_sameFloat _ _ _ (by rw [fv_wideR, fv_wideR, HV.out, HV'.out])).mono ?_; rintro e w' ⟨rfl, m, rfl⟩
  go_wp2
  go_ret
  exact ⟨rfl, wbelow _ _⟩
end Go.Proofs.Ytnjkpapjioeffac
