/- JumpHome: both sides. -/
import Derived.Test.YtibldgcfplpdkaaJmr
import Derived.Test.YtibldgcfplpdkaaHas
import Derived.Test.YtibldgcfplpdkaaSca
import Derived.Deep.RegionHeld3
import Derived.Deep.DeepCutAuto
import Derived.Deep.LoopGhost
namespace Go.Proofs.Ytibldgcfplpdkaa
open Go.ChangeShapes Go.WideShapes Go.ChangeAt Go.RowKit Go.Proofs.Ytibldgcfplpdkaa.Flo
set_option linter.unusedVariables false
theorem flR_someJ {w : World} {op : BinOp} {k : FloatKind} {x y r : Nat} (h : floatBits op k x y = some r) : flR w op k x y = r := by unfold flR; rw [h]; rfl
theorem flD_someJ {op : BinOp} {k : FloatKind} {x y r : Nat} (h : floatBits op k x y = some r) : flD op k x y = 0 := by unfold flD; rw [h]; rfl
theorem inB_isJ {lo k hi : Int} : inB lo k hi = true ↔ lo ≤ k ∧ k ≤ hi := by unfold inB; exact decide_eq_true_iff
def nextX (x : Nat) : Nat := (x * 2862933555777941757 % 18446744073709551616 + 1) % 18446744073709551616
theorem nextX_is (x : Nat) : nextX x = (x * 2862933555777941757 % 18446744073709551616 + 1) % 18446744073709551616 := by unfold nextX; with_reducible rfl
theorem nextX_lt (x : Nat) : nextX x < 18446744073709551616 := by rw [nextX_is]; exact Nat.mod_lt _ (by omega)
def nextJ (x j : Nat) : Nat := (jumpV (j + 1) (nextX x / 8589934592)).toNat
def runJ (n : Int) : Nat → Nat → Int → Nat → Int
  | 0, _, b, _ => b
  | f + 1, x, b, j => if (j : Int) < n then runJ n f (nextX x) (j : Int) (nextJ x j) else b
theorem runJ_end {n : Int} {f x j : Nat} {b : Int} (h : ¬ (j : Int) < n) : runJ n f x b j = b := by
  cases f with
  | zero => rfl
  | succ f => exact if_neg h
theorem runJ_go {n : Int} {f x j : Nat} {b : Int} (h : (j : Int) < n) : runJ n (f + 1) x b j = runJ n f (nextX x) (j : Int) (nextJ x j) := if_pos h
def jumpB (key n : Int) : Bool := keyB key && inB 1 n 1000000
def jumpR (key n : Int) : Int × Bool := if jumpB key n then (runJ n n.toNat key.toNat (-1) 0, true) else (0, false)
theorem jumpR_no {key n : Int} (h : jumpB key n = false) : jumpR key n = (0, false) := by unfold jumpR; rw [h]; rfl
theorem jumpR_y {key n : Int} (h : jumpB key n = true) : jumpR key n = (runJ n n.toNat key.toNat (-1) 0, true) := by unfold jumpR; rw [h]; rfl
theorem c_impl_IsKey_j (k : Int) (w : World) {b : Bool} (h : keyB k = b) : Calls Try.prog 97 #[.int .i64 k] w fun e w' => e = .returned (.bool b) ∧ w = w' := by
  subst h; exact c_impl_IsKey k w
theorem c_spec_l02Key_j (k : Int) (w : World) {b : Bool} (h : keyB k = b) : Calls Try.prog 171 #[.int .i64 k] w fun e w' => e = .returned (.bool b) ∧ w = w' := by
  subst h; exact (c_spec_l02Key k w).mono (by rintro e w' ⟨rfl, rfl⟩; exact ⟨rfl, rfl⟩)
theorem c_l00In_j (k lo hi : Int) (w : World) {b : Bool} (h : inB lo k hi = b) : Calls Try.prog 120 #[.int .i64 k, .int .i64 lo, .int .i64 hi] w fun e w' => e = .returned (.bool b) ∧ w = w' := by
  subst h; exact (c_l00In k lo hi w).mono (by rintro e w' ⟨rfl, rfl⟩; exact ⟨rfl, rfl⟩)
set_option maxRecDepth 100000 in
set_option maxHeartbeats 400000 in
theorem c_impl_JumpHome_e (key n : Int) (w : World) {v : Int} {rb : Bool} (hv : jumpR key n = (v, rb)) : Calls Try.prog 20 #[.int .i64 key, .int .i64 n] w fun e w' => e = .returned (.tuple #[.int .i64 v, .bool rb]) ∧ w = w' := by
  cases hb : jumpB key n
  · rw [jumpR_no hb] at hv
    cases hv
    unfold jumpB at hb
    cases hk : keyB key
    · have HK := Lib.hid hk
      clear hb hk
      go_enter Try.func20, Try.ntmps20
      go_wp2_with (go_at_call 97; refine (c_impl_IsKey_j _ _ HK.out).mono ?_; rintro e w' ⟨rfl, rfl⟩)
      go_ret2
      exact ⟨rfl, rfl⟩
    · rw [hk] at hb
      have HK := Lib.hid hk
      have hn : n < 1 ∨ 1000000 < n := by
        by_cases h1 : n < 1
        · exact .inl h1
        · by_cases h2 : 1000000 < n
          · exact .inr h2
          · have := inB_isJ.2 (show (1 : Int) ≤ n ∧ n ≤ 1000000 by omega)
            rw [this] at hb; cases hb
      clear hb hk
      rcases hn with hn | hn
      · go_enter Try.func20, Try.ntmps20
        go_wp2_with (go_at_call 97; refine (c_impl_IsKey_j _ _ HK.out).mono ?_; rintro e w' ⟨rfl, rfl⟩)
        go_ret2
        exact ⟨rfl, rfl⟩
      · have c1 : ¬ n < 1 := by omega
        have c2 : decide (n < 1) = false := decide_eq_false (by omega)
        have c4 : decide (1000000 < n) = true := decide_eq_true (by omega)
        go_enter Try.func20, Try.ntmps20
        go_wp2_with (go_at_call 97; refine (c_impl_IsKey_j _ _ HK.out).mono ?_; rintro e w' ⟨rfl, rfl⟩)
        go_ret2
        exact ⟨rfl, rfl⟩
  rw [jumpR_y hb] at hv
  cases hv
  unfold jumpB at hb
  simp only [Bool.and_eq_true] at hb
  have kb := keyB_yes hb.1
  have nb := inB_isJ.1 hb.2
  have HK := Lib.hid hb.1
  obtain ⟨X0, hX0⟩ : ∃ X : Nat, key = (X : Int) := ⟨key.toNat, by omega⟩
  subst hX0
  obtain ⟨n0, hn0⟩ : ∃ m : Nat, n.toNat = m := ⟨_, rfl⟩
  have HN := Lib.hid (show n = (n0 : Int) ∧ n0 ≤ 1000000 by omega)
  obtain ⟨R, hR⟩ : ∃ R, runJ n n0 X0 (-1) 0 = R := ⟨_, rfl⟩
  have HR := Lib.hid hR
  rw [hn0, Int.toNat_natCast, hR]
  have c1 : ¬ n < 1 := by omega
  have c2 : decide (n < 1) = false := decide_eq_false (by omega)
  have c3 : ¬ 1000000 < n := by omega
  have c4 : decide (1000000 < n) = false := decide_eq_false (by omega)
  have c5 : (n > 1000000) = False := by simp; omega
  have HX0 := Lib.hid (show X0 < 4294967296 by omega)
  have kb1 : (0 : Int) ≤ (X0 : Int) := kb.1
  have kb2 : (X0 : Int) ≤ 4294967295 := by omega
  clear hb hR kb nb hn0
  go_enter Try.func20, Try.ntmps20
  go_wp2_with (go_at_call 97; refine (c_impl_IsKey_j _ _ HK.out).mono ?_; rintro e w' ⟨rfl, rfl⟩)
  go_loopw [6, 7, 8] (fun x b j wr => ∃ (f X J : Nat) (bb : Int), x = .int .u64 (X : Int) ∧ b = .int .i64 bb ∧ j = .int .i64 (J : Int) ∧ X < 18446744073709551616 ∧ runJ n f X bb J = R ∧ n0 ≤ f + J ∧ wr = w) (fun _ _ j _ => n0 - (intOf j).toNat)
  case atStart => exact ⟨n0, X0, 0, -1, by first | rfl | (rw [IntKind.wrap_u64]; congr 1; omega), rfl, rfl, by have := HX0.out; omega, HR.out, Nat.le_refl _, rfl⟩
  case round =>
    obtain ⟨f, X, J, bb, rfl, rfl, rfl, hX, hrun, hf, rfl⟩ := hrel
    by_cases hlt : (J : Int) < n
    · obtain ⟨f1, hf1⟩ : ∃ f1, f = f1 + 1 := ⟨f - 1, by have := HN.out; omega⟩
      have hJ : J + 1 ≤ 1000000 := by have := HN.out; omega
      have hXn := nextX_lt X
      have hX1' := nextX_is X
      have hrn : runJ n f1 (nextX X) (J : Int) (nextJ X J) = R := by rw [← hrun, hf1]; exact (runJ_go hlt).symm
      unfold nextJ at hrn
      obtain ⟨X1, hX1⟩ : ∃ X1, nextX X = X1 := ⟨_, rfl⟩
      rw [hX1] at hXn hX1' hrn
      clear hX1
      obtain ⟨K, hK⟩ : ∃ K, X1 / 8589934592 = K := ⟨_, rfl⟩
      rw [hK] at hrn
      have hKl : K < 2147483648 := by omega
      obtain ⟨q, p, m, e, q1, q2, q3, q4, q5, q6⟩ := jump_ex (B := J + 1) (k := K) (Nat.succ_le_succ (Nat.zero_le _)) hJ hKl
      obtain ⟨z, hz⟩ : ∃ z, jumpV (J + 1) K = z := ⟨_, rfl⟩
      rw [hz] at q4 q5 q6 hrn
      clear hz
      obtain ⟨J1, hJ1⟩ : ∃ J1, z.toNat = J1 := ⟨_, rfl⟩
      have hzJ : z = (J1 : Int) := by omega
      rw [hJ1] at hrn
      rw [hzJ] at q4 q5 q6
      clear hJ1 hzJ
      obtain ⟨Y, hY⟩ : ∃ Y, X * 2862933555777941757 % 18446744073709551616 = Y := ⟨_, rfl⟩
      rw [hY] at hX1'
      have hBJ : (((J + 1 : Nat)) : Int) = (J : Int) + 1 := by omega
      rw [hBJ] at q2 q6
      have e1 : IntKind.u64.wrap ((X : Int) * 2862933555777941757) = (Y : Int) := by rw [IntKind.wrap_u64]; omega
      have e1' : IntKind.u64.wrap (2862933555777941757 * (X : Int)) = (Y : Int) := by rw [IntKind.wrap_u64]; omega
      have e2 : IntKind.u64.wrap ((Y : Int) + 1) = (X1 : Int) := by rw [IntKind.wrap_u64, hX1']; omega
      have e3 : (X1 : Int) / 8589934592 = (K : Int) := by omega
      have e4 : IntKind.u64.wrap ((K : Int) + 1) = (K : Int) + 1 := by rw [IntKind.wrap_u64]; omega
      have hq : ∀ wx : World, (binOp .quo 42 (.float .f64 4746794007248502784) (.float .f64 (floatOfInt .f64 ((K : Int) + 1)))).run Try.prog wx = .ok (.float .f64 q) wx := fun wx => by
        rw [run_fl_quo, flR_someJ q1, flD_someJ q1, World.drewN_zero]
      have hm : ∀ wx : World, (binOp .mul 42 (.float .f64 (floatOfInt .f64 ((J : Int) + 1))) (.float .f64 q)).run Try.prog wx = .ok (.float .f64 p) wx := fun wx => by
        rw [run_fl_mul, flR_someJ q2, flD_someJ q2, World.drewN_zero]
      have hci : ∀ wx : World, (convert 42 2 (.float .f64 p)).run Try.prog wx = .ok (.int .i64 (J1 : Int)) wx := fun wx => run_convert_float_int wx _ _ _ _ _ _ (by kernel_rfl) (by kernel_rfl) q4
      have HXN := Lib.hid hXn
      have HRN := Lib.hid hrn
      have HFJ := Lib.hid (show n0 ≤ f1 + J1 by omega)
      have HMS := Lib.hid (show n0 - J1 < n0 - J by have := HN.out; omega)
      have HE1 := Lib.hid e1
      have HE2 := Lib.hid e2
      clear q1 q2 q3 q4 q5 q6 hrn hXn hKl hY hK hX1' hBJ hrun hf hf1
      go_wp2
      go_roundw
      case rel => exact ⟨f1, X1, J1, (J : Int), by first | (with_reducible rfl) | (rw [HE1.out, HE2.out]), by first | (with_reducible rfl) | rfl, by first | (with_reducible rfl) | rfl, HXN.out, HRN.out, HFJ.out, by first | rfl | trivial⟩
      case measure => have := HMS.out; first | (simp [intOf]; omega) | (simp [intOf])
    · have HE := Lib.hid (show bb = R by rw [← hrun]; exact (runJ_end hlt).symm)
      clear hrun hf
      go_wp2
      go_ret2
      exact ⟨by rw [HE.out]; rfl, rfl⟩
end Go.Proofs.Ytibldgcfplpdkaa
