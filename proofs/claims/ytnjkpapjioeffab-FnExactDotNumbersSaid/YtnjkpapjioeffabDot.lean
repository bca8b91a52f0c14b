/- DotNumbers: the sum of products. -/
import Derived.Test.YtnjkpapjioeffabFls
import Derived.RegionTactic
import Derived.BigRegion
namespace Go.Proofs.Ytnjkpapjioeffab
open Go.ChangeShapes Go.WideShapes Go.ChangeAt Go.RowKit Go.Proofs.Ytnjkpapjioeffab.Flo
set_option linter.unusedVariables false
attribute [local go_sem] run_fl_add run_fl_sub run_fl_mul run_fl_quo run_conv run_store_float run_store_complex
/-- the sum of the products, as a value -/
def dotV (xs ys : List Nat) : Option Nat := (xs.zip ys).foldl (fun s p => fop .add .f32 s (fop .mul .f32 (fv .f32 p.1) (fv .f32 p.2))) (some 0)
theorem dotV_step (xs ys : List Nat) (k : Nat) (h : k < xs.length) (h' : k < ys.length) : dotV (xs.take (k + 1)) (ys.take (k + 1)) = fop .add .f32 (dotV (xs.take k) (ys.take k)) (fop .mul .f32 (fv .f32 (xs[k]?.getD 0)) (fv .f32 (ys[k]?.getD 0))) := by
  unfold dotV
  rw [List.take_succ_eq_append_getElem h, List.take_succ_eq_append_getElem h', List.zip_append (by simp; omega), List.foldl_append]
  simp [h, h']
theorem c_impl_DotNumbers (b off b' off' len cap cap' : Nat) (xs ys : List Nat) (w : World) (hl : len ≤ 256) (hz : xs.length = len) (hz' : ys.length = len) (hc : ∀ i, i < len → w.cell? ⟨b, off + i, none⟩ = some (.float .f32 (xs[i]?.getD 0))) (hc' : ∀ i, i < len → w.cell? ⟨b', off' + i, none⟩ = some (.float .f32 (ys[i]?.getD 0))) :
    Calls Try.prog 21 #[.slice (some ⟨b, off, none⟩) len cap, .slice (some ⟨b', off', none⟩) len cap'] w (RetFB (dotV xs ys) w) := by
  have hl' : (len : Int) ≤ 256 := by omega
  have HC := Lib.hid hc
  have HC' := Lib.hid hc'
  have HZ := Lib.hid hz
  have HZ' := Lib.hid hz'
  clear hc hz hc' hz'
  go_enter Try.func21, Try.ntmps21
  go_wp2
  go_loopw [6, 21] (fun s i wr => ∃ (k n r : Nat), k ≤ len ∧ i = .int .i64 k ∧ wr = w.drewN n ∧ s = .float .f32 r ∧ fv .f32 r = dotV (xs.take k) (ys.take k) ∧ r < 2 ^ FloatKind.f32.format.width) (fun _ i _ => len - (intOf i).toNat)
  case atStart => exact ⟨0, 0, 0, Nat.zero_le _, rfl, rfl, rfl, rfl, Nat.two_pow_pos _⟩
  case round =>
    obtain ⟨k, n, r, hk, rfl, rfl, rfl, hv, hr⟩ := hrel
    have HV := Lib.hid hv
    have HR := Lib.hid hr
    clear hv hr
    by_cases hlt : k < len
    · have hcell := HC.out k hlt
      have hcell' := HC'.out k hlt
      have hlt' : (k : Int) < (len : Int) := by omega
      have HS := Lib.hid (dotV_step xs ys k (by rw [HZ.out]; exact hlt) (by rw [HZ'.out]; exact hlt))
      go_wp2
      go_roundw
      case rel => exact ⟨k + 1, _, _, by omega, by go_num, rfl, rfl, by rw [HS.out, fv_flR, fv_flR, HV.out], flR_lt _ _ _ _ _⟩
      case measure => simp [intOf]; omega
    · obtain rfl : k = len := by omega
      go_wp2
      go_ret2
      exact RetFB.mk n (by rw [HV.out, List.take_of_length_le (Nat.le_of_eq HZ.out), List.take_of_length_le (Nat.le_of_eq HZ'.out)]) HR.out
theorem c_spec_l01Dot (b off b' off' len cap cap' : Nat) (xs ys : List Nat) (w : World) (hl : len ≤ 256) (hz : xs.length = len) (hz' : ys.length = len) (hc : ∀ i, i < len → w.cell? ⟨b, off + i, none⟩ = some (.float .f32 (xs[i]?.getD 0))) (hc' : ∀ i, i < len → w.cell? ⟨b', off' + i, none⟩ = some (.float .f32 (ys[i]?.getD 0))) :
    Calls Try.prog 42 #[.slice (some ⟨b, off, none⟩) len cap, .slice (some ⟨b', off', none⟩) len cap'] w (RetF .f32 (dotV xs ys) w) := by
  have hl' : (len : Int) ≤ 256 := by omega
  have HC := Lib.hid hc
  have HC' := Lib.hid hc'
  have HZ := Lib.hid hz
  have HZ' := Lib.hid hz'
  clear hc hz hc' hz'
  go_enter Try.func42, Try.ntmps42
  go_wp2
  go_loopw [5, 6] (fun s i wr => ∃ (k n r : Nat), k ≤ len ∧ i = .int .i64 k ∧ wr = w.drewN n ∧ s = .float .f32 r ∧ fv .f32 r = dotV (xs.take k) (ys.take k) ∧ r < 2 ^ FloatKind.f32.format.width) (fun _ i _ => len - (intOf i).toNat)
  case atStart => exact ⟨0, 0, 0, Nat.zero_le _, rfl, rfl, rfl, rfl, Nat.two_pow_pos _⟩
  case round =>
    obtain ⟨k, n, r, hk, rfl, rfl, rfl, hv, hr⟩ := hrel
    have HV := Lib.hid hv
    have HR := Lib.hid hr
    clear hv hr
    by_cases hlt : k < len
    · have hcell := HC.out k hlt
      have hcell' := HC'.out k hlt
      have hlt' : (k : Int) < (len : Int) := by omega
      have HS := Lib.hid (dotV_step xs ys k (by rw [HZ.out]; exact hlt) (by rw [HZ'.out]; exact hlt))
      go_wp2
      go_region
      go_wp2
      go_roundw
      case rel => exact ⟨k + 1, _, _, by omega, by go_num, rfl, rfl, by rw [HS.out, fv_flR, fv_flR, HV.out], flR_lt _ _ _ _ _⟩
      case measure => simp [intOf]; omega
    · obtain rfl : k = len := by omega
      go_wp2
      go_ret
      exact RetF.mk n (by rw [HV.out, List.take_of_length_le (Nat.le_of_eq HZ.out), List.take_of_length_le (Nat.le_of_eq HZ'.out)]) HR.out
theorem c_impl_DotNumbers_any (a a' : Option Addr) (cap cap' : Nat) (xs ys : List Nat) (w : World) (hl : xs.length ≤ 256) (he : ys.length = xs.length) (h : IsF .f32 w a xs.length xs) (h' : IsF .f32 w a' ys.length ys) :
    Calls Try.prog 21 #[.slice a xs.length cap, .slice a' ys.length cap'] w (RetFB (dotV xs ys) w) := by
  rw [he] at h' ⊢
  rcases h.2 with h0 | ⟨b, off, rfl, hc⟩
  · obtain rfl := List.eq_nil_of_length_eq_zero h0
    clear h h' h0 hl he
    go_enter Try.func21, Try.ntmps21
    go_wp2
    go_loop [6, 21] (fun s i => i = .int .i64 0 ∧ s = .float .f32 0) (fun _ i => 0)
    case atStart => exact ⟨rfl, rfl⟩
    case round =>
      obtain ⟨rfl, rfl⟩ := hrel
      go_wp2
      go_ret2
      exact RetFB.mk 0 rfl (Nat.two_pow_pos _)
  · rcases h'.2 with h0 | ⟨b', off', rfl, hc'⟩
    · rw [h0] at hc
      obtain rfl := List.eq_nil_of_length_eq_zero h0
      clear h h' h0 hl he hc
      go_enter Try.func21, Try.ntmps21
      go_wp2
      go_loop [6, 21] (fun s i => i = .int .i64 0 ∧ s = .float .f32 0) (fun _ i => 0)
      case atStart => exact ⟨rfl, rfl⟩
      case round =>
        obtain ⟨rfl, rfl⟩ := hrel
        go_wp2
        go_ret2
        exact RetFB.mk 0 rfl (Nat.two_pow_pos _)
    · exact c_impl_DotNumbers b off b' off' _ cap cap' xs ys w hl rfl he hc hc'
theorem c_impl_DotNumbers_no (a a' : Option Addr) (l l' cap cap' : Nat) (w : World) (hl : 256 < l ∨ l ≠ l') :
    Calls Try.prog 21 #[.slice a l cap, .slice a' l' cap'] w fun e w' => e = .returned (.tuple #[.float .f32 0, .bool false]) ∧ w = w' := by
  by_cases h : 256 < l
  · have h' : (256 : Int) < (l : Int) := by omega
    go_enter Try.func21, Try.ntmps21
    go_wp2
    go_ret2
    exact ⟨rfl, rfl⟩
  · have h' : ¬ (256 : Int) < (l : Int) := by omega
    have hd : ((l : Int) != (l' : Int)) = true := by rw [bne_iff_ne]; omega
    clear hl
    go_enter Try.func21, Try.ntmps21
    go_wp2
    go_ret2
    exact ⟨rfl, rfl⟩
theorem c_spec_l01Dot_any (a a' : Option Addr) (cap cap' : Nat) (xs ys : List Nat) (w : World) (hl : xs.length ≤ 256) (he : ys.length = xs.length) (h : IsF .f32 w a xs.length xs) (h' : IsF .f32 w a' ys.length ys) :
    Calls Try.prog 42 #[.slice a xs.length cap, .slice a' ys.length cap'] w (RetF .f32 (dotV xs ys) w) := by
  rw [he] at h' ⊢
  rcases h.2 with h0 | ⟨b, off, rfl, hc⟩
  · obtain rfl := List.eq_nil_of_length_eq_zero h0
    clear h h' h0 hl he
    go_enter Try.func42, Try.ntmps42
    go_wp2
    go_loop [5, 6] (fun s i => i = .int .i64 0 ∧ s = .float .f32 0) (fun _ i => 0)
    case atStart => exact ⟨rfl, rfl⟩
    case round =>
      obtain ⟨rfl, rfl⟩ := hrel
      go_wp2
      go_ret
      exact RetF.mk 0 rfl (Nat.two_pow_pos _)
  · rcases h'.2 with h0 | ⟨b', off', rfl, hc'⟩
    · rw [h0] at hc
      obtain rfl := List.eq_nil_of_length_eq_zero h0
      clear h h' h0 hl he hc
      go_enter Try.func42, Try.ntmps42
      go_wp2
      go_loop [5, 6] (fun s i => i = .int .i64 0 ∧ s = .float .f32 0) (fun _ i => 0)
      case atStart => exact ⟨rfl, rfl⟩
      case round =>
        obtain ⟨rfl, rfl⟩ := hrel
        go_wp2
        go_ret
        exact RetF.mk 0 rfl (Nat.two_pow_pos _)
    · exact c_spec_l01Dot b off b' off' _ cap cap' xs ys w hl rfl he hc hc'
theorem c_spec_DotNumbers_any (a a' : Option Addr) (cap cap' : Nat) (xs ys : List Nat) (w : World) (hl : xs.length ≤ 256) (he : ys.length = xs.length) (h : IsF .f32 w a xs.length xs) (h' : IsF .f32 w a' ys.length ys) :
    Calls Try.prog 20 #[.slice a xs.length cap, .slice a' ys.length cap'] w (RetFB (dotV xs ys) w) := by
  have hd : ((xs.length : Int) != (ys.length : Int)) = false := by rw [he]; simp
  have HE := Lib.hid he; clear he
  go_enter Try.func20, Try.ntmps20
  go_wp2_with (first | (go_at_call 40; refine (c_spec_l01Few_yes _ _ _ _ hl).mono ?_; rintro e w' ⟨rfl, rfl⟩) | (go_at_call 42; refine (c_spec_l01Dot_any _ _ _ _ xs ys _ hl HE.out h h').mono ?_; rintro e w' ⟨r, n, rfl, rfl, hv, hr⟩))
  go_ret2
  exact RetFB.mk _ hv hr
theorem c_spec_DotNumbers_no (a a' : Option Addr) (l l' cap cap' : Nat) (w : World) (hl : 256 < l ∨ l ≠ l') :
    Calls Try.prog 20 #[.slice a l cap, .slice a' l' cap'] w fun e w' => e = .returned (.tuple #[.float .f32 0, .bool false]) ∧ w = w' := by
  by_cases h : 256 < l
  · go_enter Try.func20, Try.ntmps20
    go_wp2_with (go_at_call 40; refine (c_spec_l01Few_no _ _ _ _ h).mono ?_; rintro e w' ⟨rfl, rfl⟩)
    go_ret2
    exact ⟨rfl, rfl⟩
  · have hd : ((l : Int) != (l' : Int)) = true := by rw [bne_iff_ne]; omega
    have hk : l ≤ 256 := by omega
    clear hl
    go_enter Try.func20, Try.ntmps20
    go_wp2_with (go_at_call 40; refine (c_spec_l01Few_yes _ _ _ _ hk).mono ?_; rintro e w' ⟨rfl, rfl⟩)
    go_ret2
    exact ⟨rfl, rfl⟩
end Go.Proofs.Ytnjkpapjioeffab
