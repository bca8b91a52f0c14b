/- PhasorOf: both functions answer the same; the law's walk. -/
import Derived.Test.YtnjkpapjioeffacFph
import Derived.Test.YtnjkpapjioeffacSin
namespace Go.Proofs.Ytnjkpapjioeffac
open Go.ChangeShapes Go.WideShapes Go.ChangeAt Go.RowKit Go.Proofs.Ytnjkpapjioeffac.Flo
set_option linter.unusedVariables false
attribute [local go_sem] unary_neg_float run_store_float run_store_complex ext_Float32bits ext_Float64bits ext_Float32frombits ext_Float64frombits ext_sqrt

def RetC (re im : Option Nat) (w : World) (e : Ending) (w' : World) : Prop := ∃ a b n, e = .returned (.complex .f32 a b) ∧ w' = w.drewN n ∧ fv .f32 a = re ∧ fv .f32 b = im
theorem RetC.mk {re im : Option Nat} {w : World} {a b : Nat} (n : Nat) (h : fv .f32 a = re) (h' : fv .f32 b = im) : RetC re im w (.returned (.complex .f32 a b)) (w.drewN n) := ⟨a, b, n, rfl, rfl, h, h'⟩
theorem RetC.mk0 {re im : Option Nat} {w : World} {a b : Nat} (h : fv .f32 a = re) (h' : fv .f32 b = im) : RetC re im w (.returned (.complex .f32 a b)) w := ⟨a, b, 0, rfl, rfl, h, h'⟩
theorem slimR_eq (w : World) {r : Nat} {v : Option Nat} (hv : fv .f64 r = v) (ok : slimOk v) : fv .f32 (convR w .f64 r .f32) = slim v := by
  subst hv; exact fv_slimR _ _ ok
theorem fv_fin {b : Nat} (h : isFin .f64 b = true) : fv .f64 b = some b := by
  refine fv_some ?_
  rw [isFin_iff] at h
  cases hn : (FloatKind.f64.decode b).isNaN
  · rfl
  · rw [hn] at h; cases h
theorem one32 : fv .f32 1065353216 = some 1065353216 := by kernel_rfl
theorem zero32 : fv .f32 0 = some 0 := by kernel_rfl
theorem nan32 : fv .f32 2143289344 = none := by kernel_rfl
theorem run_ftf {P : Program} (w : World) (s k : FloatKind) (b : Nat) : (Conv.floatToFloat s b k).run P w = .ok (.float k (convR w s b k)) (w.drewN (convD s b k)) := by
  cases h : floatToFloatBits s b k with
  | some r =>
    rw [run_floatToFloat w h]
    simp [convR, convD, h, World.drewN_zero]
  | none =>
    unfold floatToFloatBits at h
    split at h
    · cases h
    · rename_i hne
      have hn : floatToFloatBits s b k = none := by unfold floatToFloatBits; rw [if_neg hne]; exact h
      simp only [convR, convD, hn]
      split at h
      · rename_i sg t he
        simp [Conv.floatToFloat, hne, he, Question.forced, Ieee.Datum.isNaN] <;> rfl
      · cases h
      · rename_i sg m e he
        split at h
        · rename_i hi
          simp [Conv.floatToFloat, hne, he, hi, Question.forced, Ieee.Datum.isNaN] <;> rfl
        · cases h
theorem run_conv_c {P : Program} (w : World) (src dst : TypeId) (a b : Nat) (hs : (P.underlying src).isSome = true) (hd : P.underlying dst = some (.complex .f64)) :
    (convert src dst (.complex .f32 a b)).run P w = .ok (.complex .f64 (convR w .f32 a .f64) (convR (w.drewN (convD .f32 a .f64)) .f32 b .f64)) ((w.drewN (convD .f32 a .f64)).drewN (convD .f32 b .f64)) := by
  obtain ⟨u, hs'⟩ := Option.isSome_iff_exists.1 hs
  cases u <;> simp [convert, run_underlying hs', run_underlying hd, Conv.complexToComplex, run_ftf]
theorem c_impl_Phasor_nan (x : Nat) (w : World) (h : x < 18446744073709551616) (hf : isFin .f64 x = false) : Calls Try.prog 13 #[.float .f64 x] w (RetC none none w) := by
  have hcn : ∀ wx : World, (convert 22 28 (.float .f64 9221120237041090561)).run Try.prog wx = .ok (.float .f32 (convR wx .f64 9221120237041090561 .f32)) (wx.drewN (convD .f64 9221120237041090561 .f32)) := fun wx => run_conv wx _ _ _ _ _ (by kernel_rfl) (by kernel_rfl)
  go_enter Try.func13, Try.ntmps13
  go_wp2_with (first | (go_at_call 37; refine (c_impl_isFiniteWide _ _ h).mono ?_; rintro e w' ⟨rfl, rfl⟩) | (go_at_call 38; refine (c_math_NaN _).mono ?_; rintro e w' ⟨rfl, rfl⟩))
  go_ret
  exact RetC.mk _ (by rw [fv_slimR _ _ (.inl nan64), nan64]; rfl) (by rw [fv_slimR _ _ (.inl nan64), nan64]; rfl)
theorem c_impl_Phasor_far (x : Nat) (w : World) (hl : x < 18446744073709551616) (hi : isFin .f64 x = true) (hb : (FloatKind.f64.format.order (x % 9223372036854775808) 4841369599423283200 == some .gt || FloatKind.f64.format.order (x % 9223372036854775808) 4841369599423283200 == some .eq) = true) : Calls Try.prog 13 #[.float .f64 x] w (RetC (some 1065353216) (some 0) w) := by
  go_enter Try.func13, Try.ntmps13
  go_wp2_with (first | (go_at_call 37; refine (c_impl_isFiniteWide _ _ hl).mono ?_; rintro e w' ⟨rfl, rfl⟩) | (go_at_call 39; refine (c_Abs _ _ hl).mono ?_; rintro e w' ⟨rfl, rfl⟩))
  go_ret
  exact RetC.mk0 one32 zero32
set_option maxHeartbeats 8000000 in
theorem c_impl_Phasor_near (x : Nat) (n : Int) (q b1 b2 : Nat) (n1 n2 : Int) (w : World) (hl : x < 18446744073709551616) (hi : isFin .f64 x = true) (hb : (FloatKind.f64.format.order (x % 9223372036854775808) 4841369599423283200 == some .gt || FloatKind.f64.format.order (x % 9223372036854775808) 4841369599423283200 == some .eq) = false) (P : Phs x n q b1 b2 n1 n2) :
    Calls Try.prog 13 #[.float .f64 x] w (RetC (slim (phRe q (sinF (shareV (some b1) n1)) (sinF (shareV (some b2) n2)))) (slim (phIm q (sinF (shareV (some b1) n1)) (sinF (shareV (some b2) n2)))) w) := by
  have HP := Lib.hid P
  clear P
  go_enter Try.func13, Try.ntmps13
  go_wp2_with (first | (go_at_call 37; refine (c_impl_isFiniteWide _ _ hl).mono ?_; rintro e w' ⟨rfl, rfl⟩) | (go_at_call 39; refine (c_Abs _ _ hl).mono ?_; rintro e w' ⟨rfl, rfl⟩))
  refine (c_impl_shareOfTurn _ _ _ HP.out.whole).mono ?_; rintro e w' ⟨r, k, rfl, rfl, hr⟩
  have HR := Lib.hid hr
  clear hr hi hb hl
  go_wp2_with fail
  go_loopw [4, 5] (fun f i wr => ∃ (j n p : Nat), j ≤ q ∧ i = .int .i64 (j : Int) ∧ wr = w.drewN n ∧ f = .float .f64 p ∧ fv .f64 p = lessQ (fv .f64 r) j) (fun _ i _ => (10 - intOf i).toNat)
  case atStart => exact ⟨0, _, _, by omega, rfl, rfl, rfl, rfl⟩
  case round =>
    obtain ⟨j, n0, p, hj, rfl, rfl, rfl, hp⟩ := hrel
    by_cases hc : j = q
    · subst hc
      have G := HP.out.stop
      rw [← HR.out, ← hp, ← geQ_iff] at G
      have hb := HP.out.left
      rw [← HR.out, ← hp] at hb
      obtain rfl := fv_eq hb
      have HB := Lib.hid hb
      clear hp hb hj
      go_wp2_with fail
      (with_reducible refine upon_fl rfl ?_); intro r1 nr1 hr1
      have h1 : fv .f64 r1 = some b1 := by rw [hr1.out, HB.out]; exact HP.out.other
      obtain rfl := fv_eq h1
      clear G h1 hr1
      go_wp2_with fail
      refine (c_impl_wideSine _ _ _ HP.out.int1).mono ?_; rintro e w' ⟨c, k1, rfl, rfl, hc⟩
      have HC := Lib.hid (hc.trans (by rw [fv_fin HP.out.near1.1]))
      clear hc
      go_wp2_with fail
      refine (c_impl_wideSine _ _ _ HP.out.int2).mono ?_; rintro e w' ⟨s, k2, rfl, rfl, hs⟩
      have HS := Lib.hid (hs.trans (by rw [fv_fin HP.out.near2.1]))
      clear hs
      have hcn : ∀ (wx : World) (y : Nat), (convert 22 28 (.float .f64 y)).run Try.prog wx = .ok (.float .f32 (convR wx .f64 y .f32)) (wx.drewN (convD .f64 y .f32)) := fun wx y => run_conv wx _ _ _ _ _ (by kernel_rfl) (by kernel_rfl)
      have hq := HP.out.few
      have hcs : j = 1 ∨ j = 2 ∨ j = 3 ∨ j = 0 ∨ j = 4 ∨ j = 5 ∨ j = 6 ∨ j = 7 ∨ j = 8 ∨ j = 9 := by omega
      clear hq
      rcases hcs with rfl | rfl | rfl | hcs
      · go_wp2_with fail
        (with_reducible refine upon_fl rfl ?_); intro z nz hz
        go_wp2_with go_in
        go_ret
        exact RetC.mk _ (slimR_eq _ (by rw [hz.out, HS.out]; rfl) (ph_ok HP.out.ok1 HP.out.ok2).1) (slimR_eq _ (by rw [HC.out]; rfl) (ph_ok HP.out.ok1 HP.out.ok2).2)
      · go_wp2_with fail
        (with_reducible refine upon_fl rfl ?_); intro z nz hz
        go_wp2_with fail
        (with_reducible refine upon_fl rfl ?_); intro y ny hy
        go_wp2_with go_in
        go_ret
        exact RetC.mk _ (slimR_eq _ (by rw [hz.out, HC.out]; rfl) (ph_ok HP.out.ok1 HP.out.ok2).1) (slimR_eq _ (by rw [hy.out, HS.out]; rfl) (ph_ok HP.out.ok1 HP.out.ok2).2)
      · go_wp2_with fail
        (with_reducible refine upon_fl rfl ?_); intro z nz hz
        go_wp2_with go_in
        go_ret
        exact RetC.mk _ (slimR_eq _ (by rw [HS.out]; rfl) (ph_ok HP.out.ok1 HP.out.ok2).1) (slimR_eq _ (by rw [hz.out, HC.out]; rfl) (ph_ok HP.out.ok1 HP.out.ok2).2)
      · rcases hcs with rfl | rfl | rfl | rfl | rfl | rfl | rfl
        all_goals
          go_wp2_with go_in
          go_ret
          exact RetC.mk _ (slimR_eq _ (by rw [HC.out]; rfl) (ph_ok HP.out.ok1 HP.out.ok2).1) (slimR_eq _ (by rw [HS.out]; rfl) (ph_ok HP.out.ok1 HP.out.ok2).2)
    · have G := HP.out.go j (by omega)
      rw [← HR.out, ← hp, ← geQ_iff] at G
      have HPP := Lib.hid hp
      clear hp
      have hq := HP.out.few
      go_wp2_with fail
      (with_reducible refine upon_fl rfl ?_); intro r1 nr1 hr1
      go_wp2
      go_roundw
      case rel => exact ⟨j + 1, _, r1, by omega, by rw [Int.natCast_add]; rfl, rfl, rfl, by rw [hr1.out, HPP.out]; rfl⟩
      case measure => simp [intOf]; omega
end Go.Proofs.Ytnjkpapjioeffac
