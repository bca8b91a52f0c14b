/- JumpHome: the other side. -/
import Derived.Test.YtmgkbgdbahijnadJmp
namespace Go.Proofs.Ytmgkbgdbahijnad
open Go.ChangeShapes Go.WideShapes Go.ChangeAt Go.RowKit Go.Proofs.Ytmgkbgdbahijnad.Flo
set_option linter.unusedVariables false
theorem toFloorD (x : Nat) {s : Bool} {m : Nat} {e : Int} (hd : FloatKind.f64.decode x = .number s m e) : Extern.MathFloor.toIntegral "math.archFloor" .down #[.float .f64 x] = pure (.float .f64 (floorD x)) := by
  unfold floorD
  delta Extern.MathFloor.toIntegral
  generalize FloatKind.f64.decode = dec at *
  refine Eq.trans (congrArg (fun d => Extern.MathFloor.toIntegral.match_1 (fun _ => Sem Value) d _ (fun d => pure (.float .f64 (FloatKind.f64.encode (d.integral .down))))) hd) ?_
  rw [hd]
theorem ext_archFloorD (x : Nat) (w : World) {s : Bool} {m : Nat} {e : Int} (hd : FloatKind.f64.decode x = .number s m e) : (callFunc 129 #[.float .f64 x]).run Try.prog w = .ok (.value (.float .f64 (floorD x))) w := by
  rw [run_callFunc_extern (fn := Try.f129) (e := Extern.MathFloor.toIntegral "math.archFloor" .down) (by kernel_rfl) (by kernel_rfl) (by kernel_rfl) (by kernel_rfl) (by kernel_rfl)]
  rw [toFloorD x hd]
  rfl
theorem c_FloorD (x : Nat) (w : World) {s : Bool} {m : Nat} {e : Int} (hd : FloatKind.f64.decode x = .number s m e) : Calls Try.prog 102 #[.float .f64 x] w fun e w' => e = .returned (.float .f64 (floorD x)) ∧ w = w' := by
  have hx : ∀ wx : World, (callFunc 129 #[.float .f64 x]).run Try.prog wx = .ok (.value (.float .f64 (floorD x))) wx := fun wx => ext_archFloorD x wx hd
  clear hd
  go_enter Try.func102, Try.ntmps102
  go_wp2
  go_ret
  exact ⟨rfl, rfl⟩
set_option maxRecDepth 100000 in
set_option maxHeartbeats 400000 in
theorem c_spec_JumpHome_e (key n : Int) (w : World) {v : Int} {rb : Bool} (hv : jumpR key n = (v, rb)) : Calls Try.prog 55 #[.int .i64 key, .int .i64 n] w fun e w' => e = .returned (.tuple #[.int .i64 v, .bool rb]) ∧ w = w' := by
  cases hb : jumpB key n
  · rw [jumpR_no hb] at hv
    cases hv
    unfold jumpB at hb
    cases hk : keyB key
    · have HK := Lib.hid hk
      clear hb hk
      go_enter Try.func55, Try.ntmps55
      go_wp2_with (go_at_call 64; refine (c_spec_l02Key_j _ _ HK.out).mono ?_; rintro e w' ⟨rfl, rfl⟩)
      go_ret2
      exact ⟨rfl, rfl⟩
    · rw [hk] at hb
      have HK := Lib.hid hk
      have HI := Lib.hid (show inB 1 n 1000000 = false from hb)
      clear hb hk
      go_enter Try.func55, Try.ntmps55
      go_wp2_with fail
      refine (c_spec_l02Key_j _ _ HK.out).mono ?_; rintro e w' ⟨rfl, rfl⟩
      go_wp2_with fail
      refine (c_l00In_j _ _ _ _ HI.out).mono ?_; rintro e w' ⟨rfl, rfl⟩
      go_wp2
      go_ret2
      exact ⟨rfl, rfl⟩
  rw [jumpR_y hb] at hv
  cases hv
  unfold jumpB at hb
  simp only [Bool.and_eq_true] at hb
  have kb := keyB_yes hb.1
  have nb := inB_isJ.1 hb.2
  have HK := Lib.hid hb.1
  have HI := Lib.hid hb.2
  obtain ⟨X0, hX0⟩ : ∃ X : Nat, key = (X : Int) := ⟨key.toNat, by omega⟩
  subst hX0
  obtain ⟨n0, hn0⟩ : ∃ m : Nat, n.toNat = m := ⟨_, rfl⟩
  have HN := Lib.hid (show n = (n0 : Int) ∧ n0 ≤ 1000000 by omega)
  obtain ⟨R, hR⟩ : ∃ R, runJ n n0 X0 (-1) 0 = R := ⟨_, rfl⟩
  have HR := Lib.hid hR
  rw [hn0, Int.toNat_natCast, hR]
  have c1 : ¬ n < 1 := by omega
  have c2 : decide (n < 1) = false := decide_eq_false (by omega)
  have c3 : ¬ 1000000 < n := by omega
  have c4 : decide (1000000 < n) = false := decide_eq_false (by omega)
  have c5 : (n > 1000000) = False := by simp; omega
  have HX0 := Lib.hid (show X0 < 4294967296 by omega)
  have kb1 : (0 : Int) ≤ (X0 : Int) := kb.1
  have kb2 : (X0 : Int) ≤ 4294967295 := by omega
  clear hb hR kb nb hn0
  go_enter Try.func55, Try.ntmps55
  go_wp2_with fail
  refine (c_spec_l02Key_j _ _ HK.out).mono ?_; rintro e w' ⟨rfl, rfl⟩
  go_wp2_with fail
  refine (c_l00In_j _ _ _ _ HI.out).mono ?_; rintro e w' ⟨rfl, rfl⟩
  go_wp2
  go_loopw [6, 7, 8] (fun x b j wr => ∃ (f X J : Nat) (bb : Int), x = .int .u64 (X : Int) ∧ b = .int .i64 bb ∧ j = .int .i64 (J : Int) ∧ X < 18446744073709551616 ∧ runJ n f X bb J = R ∧ n0 ≤ f + J ∧ wr = w) (fun _ _ j _ => n0 - (intOf j).toNat)
  case atStart => exact ⟨n0, X0, 0, -1, by first | rfl | (rw [IntKind.wrap_u64]; congr 1; omega), rfl, rfl, by have := HX0.out; omega, HR.out, Nat.le_refl _, rfl⟩
  case round =>
    obtain ⟨f, X, J, bb, rfl, rfl, rfl, hX, hrun, hf, rfl⟩ := hrel
    by_cases hlt : (J : Int) < n
    · obtain ⟨f1, hf1⟩ : ∃ f1, f = f1 + 1 := ⟨f - 1, by have := HN.out; omega⟩
      have hJ : J + 1 ≤ 1000000 := by have := HN.out; omega
      have hXn := nextX_lt X
      have hX1' := nextX_is X
      have hrn : runJ n f1 (nextX X) (J : Int) (nextJ X J) = R := by rw [← hrun, hf1]; exact (runJ_go hlt).symm
      unfold nextJ at hrn
      obtain ⟨X1, hX1⟩ : ∃ X1, nextX X = X1 := ⟨_, rfl⟩
      rw [hX1] at hXn hX1' hrn
      clear hX1
      obtain ⟨K, hK⟩ : ∃ K, X1 / 8589934592 = K := ⟨_, rfl⟩
      rw [hK] at hrn
      have hKl : K < 2147483648 := by omega
      obtain ⟨q, p, m, e, q1, q2, q3, q4, q5, q6⟩ := jump_ex (B := J + 1) (k := K) (Nat.succ_le_succ (Nat.zero_le _)) hJ hKl
      obtain ⟨z, hz⟩ : ∃ z, jumpV (J + 1) K = z := ⟨_, rfl⟩
      rw [hz] at q4 q5 q6 hrn
      clear hz
      obtain ⟨J1, hJ1⟩ : ∃ J1, z.toNat = J1 := ⟨_, rfl⟩
      have hzJ : z = (J1 : Int) := by omega
      rw [hJ1] at hrn
      rw [hzJ] at q4 q5 q6
      clear hJ1 hzJ
      obtain ⟨Y, hY⟩ : ∃ Y, X * 2862933555777941757 % 18446744073709551616 = Y := ⟨_, rfl⟩
      rw [hY] at hX1'
      have hBJ : (((J + 1 : Nat)) : Int) = (J : Int) + 1 := by omega
      rw [hBJ] at q2 q6
      have e1 : IntKind.u64.wrap ((X : Int) * 2862933555777941757) = (Y : Int) := by rw [IntKind.wrap_u64]; omega
      have e1' : IntKind.u64.wrap (2862933555777941757 * (X : Int)) = (Y : Int) := by rw [IntKind.wrap_u64]; omega
      have e2 : IntKind.u64.wrap ((Y : Int) + 1) = (X1 : Int) := by rw [IntKind.wrap_u64, hX1']; omega
      have e3 : (X1 : Int) / 8589934592 = (K : Int) := by omega
      have e4 : IntKind.u64.wrap ((K : Int) + 1) = (K : Int) + 1 := by rw [IntKind.wrap_u64]; omega
      have hq : ∀ wx : World, (binOp .quo 68 (.float .f64 4746794007248502784) (.float .f64 (floatOfInt .f64 ((K : Int) + 1)))).run Try.prog wx = .ok (.float .f64 q) wx := fun wx => by
        rw [run_fl_quo, flR_someJ q1, flD_someJ q1, World.drewN_zero]
      have hm : ∀ wx : World, (binOp .mul 68 (.float .f64 (floatOfInt .f64 ((J : Int) + 1))) (.float .f64 q)).run Try.prog wx = .ok (.float .f64 p) wx := fun wx => by
        rw [run_fl_mul, flR_someJ q2, flD_someJ q2, World.drewN_zero]
      have hci : ∀ wx : World, (convert 68 2 (.float .f64 (floorD p))).run Try.prog wx = .ok (.int .i64 (J1 : Int)) wx := fun wx => run_convert_float_int wx _ _ _ _ _ _ (by kernel_rfl) (by kernel_rfl) q5
      have CF := Lib.hid (fun (wx : World) => c_FloorD p wx q3)
      have HXN := Lib.hid hXn
      have HRN := Lib.hid hrn
      have HFJ := Lib.hid (show n0 ≤ f1 + J1 by omega)
      have HMS := Lib.hid (show n0 - J1 < n0 - J by have := HN.out; omega)
      have HE1 := Lib.hid e1
      have HE2 := Lib.hid e2
      clear q1 q2 q3 q4 q5 q6 hrn hXn hKl hY hK hX1' hBJ hrun hf hf1
      go_wp2_with (go_at_call 102; refine (CF.out _).mono ?_; rintro e w' ⟨rfl, rfl⟩)
      go_roundw
      case rel => exact ⟨f1, X1, J1, (J : Int), by first | (with_reducible rfl) | (rw [HE1.out, HE2.out]), by first | (with_reducible rfl) | rfl, by first | (with_reducible rfl) | rfl, HXN.out, HRN.out, HFJ.out, by first | rfl | trivial⟩
      case measure => have := HMS.out; first | (simp [intOf]; omega) | (simp [intOf])
    · have HE := Lib.hid (show bb = R by rw [← hrun]; exact (runJ_end hlt).symm)
      clear hrun hf
      go_wp2
      go_ret2
      exact ⟨by rw [HE.out]; rfl, rfl⟩
theorem c_impl_JumpHome (key n : Int) (w : World) {v : Int} {rb : Bool} (hv : jumpR key n = (v, rb)) : Calls Try.prog 56 #[.int .i64 key, .int .i64 n] w fun e w' => e = .returned (.tuple #[.int .i64 v, .bool rb]) ∧ Ext w w' :=
  (c_impl_JumpHome_e key n w hv).mono (by rintro e w' ⟨rfl, rfl⟩; exact ⟨rfl, Ext.refl _⟩)
theorem c_spec_JumpHome (key n : Int) (w : World) {v : Int} {rb : Bool} (hv : jumpR key n = (v, rb)) : Calls Try.prog 55 #[.int .i64 key, .int .i64 n] w fun e w' => e = .returned (.tuple #[.int .i64 v, .bool rb]) ∧ Ext w w' :=
  (c_spec_JumpHome_e key n w hv).mono (by rintro e w' ⟨rfl, rfl⟩; exact ⟨rfl, Ext.refl _⟩)
end Go.Proofs.Ytmgkbgdbahijnad
