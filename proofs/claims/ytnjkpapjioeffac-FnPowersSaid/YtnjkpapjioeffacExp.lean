/- ExpNumber: what the program answers; gaps; a byte that chooses. -/
import Derived.Test.YtnjkpapjioeffacLgn
namespace Go.Proofs.Ytnjkpapjioeffac
open Go.ChangeShapes Go.WideShapes Go.ChangeAt Go.RowKit Go.Proofs.Ytnjkpapjioeffac.Flo
set_option linter.unusedVariables false
attribute [local go_sem] unary_neg_float run_store_float run_store_complex ext_Float32bits ext_Float64bits ext_Float32frombits ext_Float64frombits ext_sqrt

abbrev c256 : Option Nat := fv .f64 4643211215818981376
def expP (t : Option Nat) : Nat → Option Nat
  | 0 => cOne
  | j + 1 => fop .add .f64 cOne (fop .quo .f64 (fop .mul .f64 t (expP t j)) (fv .f64 (floatOfInt .f64 (12 - (j : Int)))))
def sqN (p : Option Nat) : Nat → Option Nat
  | 0 => p
  | j + 1 => fop .mul .f64 (sqN p j) (sqN p j)
def expV (x : Option Nat) : Option Nat := sqN (expP (fop .quo .f64 x c256) 12) 8
def gapV (a b : Option Nat) : Option Nat := if ford .f64 a b == some .lt then fop .sub .f64 b a else fop .sub .f64 a b
set_option maxHeartbeats 8000000 in
theorem c_impl_Exp (x : Nat) (w : World) (h1 : (FloatKind.f32.format.order x 1128792064 == some .gt) = false) (h2 : (FloatKind.f32.format.order x 3276275712 == some .lt) = false) (hok : slimOk (expV (wide (fv .f32 x)))) : Calls Try.prog 23 #[.float .f32 x] w (RetG .f32 (slim (expV (wide (fv .f32 x)))) w) := by
  have hcv : ∀ wx : World, (convert 28 22 (.float .f32 x)).run Try.prog wx = .ok (.float .f64 (convR wx .f32 x .f64)) (wx.drewN (convD .f32 x .f64)) := fun wx => run_conv wx _ _ _ _ _ (by kernel_rfl) (by kernel_rfl)
  have HO := Lib.hid hok
  clear hok
  go_enter Try.func23, Try.ntmps23
  go_wp2_with fail
  (with_reducible refine upon_fl rfl ?_); intro t nt ht
  have HT := Lib.hid (ht.out.trans (by rw [fv_wideR] : _ = fop .quo .f64 (wide (fv .f32 x)) c256))
  clear ht h1 h2 hcv
  go_wp2_with fail
  go_loopw [4, 5] (fun q i wr => ∃ (j n p : Nat), j ≤ 12 ∧ i = .int .i64 (12 - (j : Int)) ∧ wr = w.drewN n ∧ q = .float .f64 p ∧ fv .f64 p = expP (fv .f64 t) j) (fun _ i _ => (intOf i).toNat)
  case atStart => exact ⟨0, _, _, by omega, rfl, rfl, rfl, rfl⟩
  case round =>
    obtain ⟨j, n, p, hj, rfl, rfl, rfl, hp⟩ := hrel
    have HP := Lib.hid hp
    clear hp
    by_cases h12 : j = 12
    · subst h12
      go_wp2_with fail
      go_loopw [4, 26] (fun q i wr => ∃ (j n r : Nat), j ≤ 8 ∧ i = .int .i64 (j : Int) ∧ wr = w.drewN n ∧ q = .float .f64 r ∧ fv .f64 r = sqN (fv .f64 p) j) (fun _ i _ => (8 - intOf i).toNat)
      case atStart => exact ⟨0, _, _, by omega, rfl, rfl, rfl, rfl⟩
      case round =>
        obtain ⟨j, n, r, hj, rfl, rfl, rfl, hr⟩ := hrel
        have HR := Lib.hid hr
        clear hr
        by_cases h8 : j = 8
        · subst h8
          have hcn : ∀ wx : World, (convert 22 28 (.float .f64 r)).run Try.prog wx = .ok (.float .f32 (convR wx .f64 r .f32)) (wx.drewN (convD .f64 r .f32)) := fun wx => run_conv wx _ _ _ _ _ (by kernel_rfl) (by kernel_rfl)
          go_wp2_with go_in
          go_ret
          refine RetG.mk _ ?_
          have hv : fv .f64 r = expV (wide (fv .f32 x)) := by rw [HR.out, HP.out, HT.out]; rfl
          have ho := HO.out
          rw [← hv] at ho
          rw [fv_slimR _ _ ho, hv]
        · have hcs : j = 0 ∨ j = 1 ∨ j = 2 ∨ j = 3 ∨ j = 4 ∨ j = 5 ∨ j = 6 ∨ j = 7 := by omega
          clear h8 hj
          rcases hcs with rfl | rfl | rfl | rfl | rfl | rfl | rfl | rfl
          all_goals
            go_wp2_with fail
            (with_reducible refine upon_fl rfl ?_); intro c nc hc
            go_wp2
            go_roundw
            case rel => first | (refine ⟨_, _, _, _, _, _, _, ⟨1, _, c, by omega, rfl, rfl, rfl, ?_⟩, rfl⟩; rw [hc.out, HR.out]; rfl) | (refine ⟨_, _, _, _, _, _, _, ⟨2, _, c, by omega, rfl, rfl, rfl, ?_⟩, rfl⟩; rw [hc.out, HR.out]; rfl) | (refine ⟨_, _, _, _, _, _, _, ⟨3, _, c, by omega, rfl, rfl, rfl, ?_⟩, rfl⟩; rw [hc.out, HR.out]; rfl) | (refine ⟨_, _, _, _, _, _, _, ⟨4, _, c, by omega, rfl, rfl, rfl, ?_⟩, rfl⟩; rw [hc.out, HR.out]; rfl) | (refine ⟨_, _, _, _, _, _, _, ⟨5, _, c, by omega, rfl, rfl, rfl, ?_⟩, rfl⟩; rw [hc.out, HR.out]; rfl) | (refine ⟨_, _, _, _, _, _, _, ⟨6, _, c, by omega, rfl, rfl, rfl, ?_⟩, rfl⟩; rw [hc.out, HR.out]; rfl) | (refine ⟨_, _, _, _, _, _, _, ⟨7, _, c, by omega, rfl, rfl, rfl, ?_⟩, rfl⟩; rw [hc.out, HR.out]; rfl) | (refine ⟨_, _, _, _, _, _, _, ⟨8, _, c, by omega, rfl, rfl, rfl, ?_⟩, rfl⟩; rw [hc.out, HR.out]; rfl)
            case measure => simp [intOf]
    · have hcs : j = 0 ∨ j = 1 ∨ j = 2 ∨ j = 3 ∨ j = 4 ∨ j = 5 ∨ j = 6 ∨ j = 7 ∨ j = 8 ∨ j = 9 ∨ j = 10 ∨ j = 11 := by omega
      clear h12 hj
      rcases hcs with rfl | rfl | rfl | rfl | rfl | rfl | rfl | rfl | rfl | rfl | rfl | rfl
      all_goals
        go_wp2_with fail
        (with_reducible refine upon_fl rfl ?_); intro a nna hha
        go_wp2_with fail
        (with_reducible refine upon_fl rfl ?_); intro b nnb hhb
        go_wp2_with fail
        (with_reducible refine upon_fl rfl ?_); intro c nnc hhc
        go_wp2
        go_roundw
        case rel => first | (refine ⟨1, _, c, by omega, rfl, rfl, rfl, ?_⟩; rw [hhc.out, hhb.out, hha.out, HP.out]; rfl) | (refine ⟨2, _, c, by omega, rfl, rfl, rfl, ?_⟩; rw [hhc.out, hhb.out, hha.out, HP.out]; rfl) | (refine ⟨3, _, c, by omega, rfl, rfl, rfl, ?_⟩; rw [hhc.out, hhb.out, hha.out, HP.out]; rfl) | (refine ⟨4, _, c, by omega, rfl, rfl, rfl, ?_⟩; rw [hhc.out, hhb.out, hha.out, HP.out]; rfl) | (refine ⟨5, _, c, by omega, rfl, rfl, rfl, ?_⟩; rw [hhc.out, hhb.out, hha.out, HP.out]; rfl) | (refine ⟨6, _, c, by omega, rfl, rfl, rfl, ?_⟩; rw [hhc.out, hhb.out, hha.out, HP.out]; rfl) | (refine ⟨7, _, c, by omega, rfl, rfl, rfl, ?_⟩; rw [hhc.out, hhb.out, hha.out, HP.out]; rfl) | (refine ⟨8, _, c, by omega, rfl, rfl, rfl, ?_⟩; rw [hhc.out, hhb.out, hha.out, HP.out]; rfl) | (refine ⟨9, _, c, by omega, rfl, rfl, rfl, ?_⟩; rw [hhc.out, hhb.out, hha.out, HP.out]; rfl) | (refine ⟨10, _, c, by omega, rfl, rfl, rfl, ?_⟩; rw [hhc.out, hhb.out, hha.out, HP.out]; rfl) | (refine ⟨11, _, c, by omega, rfl, rfl, rfl, ?_⟩; rw [hhc.out, hhb.out, hha.out, HP.out]; rfl) | (refine ⟨12, _, c, by omega, rfl, rfl, rfl, ?_⟩; rw [hhc.out, hhb.out, hha.out, HP.out]; rfl)
        case measure => simp [intOf]
theorem c_gap (a b : Nat) (w : World) : Calls Try.prog 29 #[.float .f64 a, .float .f64 b] w (RetG .f64 (gapV (fv .f64 a) (fv .f64 b)) w) := by
  by_cases ht : (FloatKind.f64.format.order a b == some .lt) = true
  · have ht' := ht
    rw [order_ford] at ht'
    have HG := Lib.hid (if_pos ht' : gapV (fv .f64 a) (fv .f64 b) = _)
    clear ht'
    go_enter Try.func29, Try.ntmps29
    go_wp2_with fail
    (with_reducible refine upon_fl rfl ?_); intro r nr hr
    go_wp2
    go_ret
    exact RetG.mk _ (hr.out.trans HG.out.symm)
  · have ht0 : (FloatKind.f64.format.order a b == some .lt) = false := by simpa using ht
    have ht' := ht
    rw [order_ford] at ht'
    have HG := Lib.hid (if_neg ht' : gapV (fv .f64 a) (fv .f64 b) = _)
    clear ht' ht
    go_enter Try.func29, Try.ntmps29
    go_wp2_with fail
    (with_reducible refine upon_fl rfl ?_); intro r nr hr
    go_wp2
    go_ret
    exact RetG.mk _ (hr.out.trans HG.out.symm)
end Go.Proofs.Ytnjkpapjioeffac
