/- CheckOf: what both functions answer; the law's walk. -/
import Derived.Test.YtnjkpapjioeffacRows
import Derived.WalkKit
import Derived.ProofKit
import Derived.OpenShut
import Derived.WalkLawsBesides
import Derived.Handy
import Derived.Lib.Hide
import Derived.Below
namespace Go.Proofs.Ytnjkpapjioeffac
open Go.ChangeShapes Go.WideShapes Go.ChangeAt Go.RowKit
set_option linter.unusedVariables false

/-- the check number of bytes -/
def ckV (n : Int) (l : List UInt8) : Int := l.foldl (fun n c => (887 * n + (c.toNat : Int) + 173) % 65003) n
theorem ckV_snoc (n : Int) (l : List UInt8) (c : UInt8) : ckV n (l ++ [c]) = (887 * ckV n l + (c.toNat : Int) + 173) % 65003 := by
  unfold ckV; rw [List.foldl_append]; rfl
theorem ckV_bd (n : Int) (l : List UInt8) (h0 : 0 ≤ n) (h1 : n < 65003) : 0 ≤ ckV n l ∧ ckV n l < 65003 := by
  unfold ckV
  induction l generalizing n with
  | nil => exact ⟨h0, h1⟩
  | cons c l ih =>
    refine ih ((887 * n + (c.toNat : Int) + 173) % 65003) ?_ ?_
    · omega
    · omega
theorem ck_take (s : ByteArray) (k : Nat) (h : k < s.size) : s.data.toList.take (k + 1) = s.data.toList.take k ++ [s[k]] := by
  rw [List.take_succ_eq_append_getElem (by simpa using h)]; rfl
set_option maxHeartbeats 400000 in
theorem c_impl_CheckOf (n : Int) (s : ByteArray) (w : World) (hs : s.size ≤ maxLen) (h0 : 0 ≤ n) (h1 : n < 65003) :
    Calls Try.prog 35 #[.int .i64 n, .string s] w fun e w' => e = .returned (.tuple #[.int .i64 (ckV n s.data.toList), .bool true]) ∧ w = w' := by
  unfold maxLen at hs
  go_enter Try.func35, Try.ntmps35
  go_wp2
  go_loop [6, 17] (fun c i => ∃ k : Nat, k ≤ s.size ∧ i = .int .i64 k ∧ c = .int .i64 (ckV n (s.data.toList.take k))) (fun _ i => s.size - (intOf i).toNat)
  case atStart => exact ⟨0, Nat.zero_le _, rfl, rfl⟩
  case round =>
    obtain ⟨k, hk, rfl, rfl⟩ := hrel
    obtain ⟨b0, b1⟩ := ckV_bd n (s.data.toList.take k) h0 h1
    by_cases hlt : k < s.size
    · have HS : Hid (ckV n (s.data.toList.take (k + 1)) = (887 * ckV n (s.data.toList.take k) + (s[k].toNat : Int) + 173) % 65003) := by rw [ck_take s k hlt]; exact ckV_snoc _ _ _
      have hc : (s[k].toNat : Int) < 256 := by have := s[k].toNat_lt; omega
      go_wp2
      go_round
      case rel => exact ⟨k + 1, by omega, by go_num, by rw [HS.out]⟩
      case measure => simp [intOf]; omega
    · go_wp2
      go_ret2
      exact ⟨by rw [List.take_of_length_le (by simp; omega)]; rfl, rfl⟩
theorem c_impl_CheckOf_no (n : Int) (s : ByteArray) (w : World) (h : ¬ (0 ≤ n ∧ n < 65003)) :
    Calls Try.prog 35 #[.int .i64 n, .string s] w fun e w' => e = .returned (.tuple #[.int .i64 0, .bool false]) ∧ w = w' := by
  by_cases h1 : n < 0
  · go_enter Try.func35, Try.ntmps35
    go_wp2
    go_ret2
    exact ⟨rfl, rfl⟩
  · have h2 : 65003 ≤ n := by omega
    have h3 : 0 ≤ n := by omega
    go_enter Try.func35, Try.ntmps35
    go_wp2
    go_ret2
    exact ⟨rfl, rfl⟩
theorem c_l00In_yes (n lo hi : Int) (w : World) (h0 : lo ≤ n) (h1 : n ≤ hi) :
    Calls Try.prog 57 #[.int .i64 n, .int .i64 lo, .int .i64 hi] w fun e w' => e = .returned (.bool true) ∧ w = w' := by
  go_enter Try.func57, Try.ntmps57
  go_wp2
  go_ret
  exact ⟨rfl, rfl⟩
set_option maxHeartbeats 400000 in
theorem c_spec_l01Check (n : Int) (s : ByteArray) (w : World) (hs : s.size ≤ maxLen) (h0 : 0 ≤ n) (h1 : n < 65003) :
    Calls Try.prog 58 #[.int .i64 n, .string s] w fun e w' => e = .returned (.int .i64 (ckV n s.data.toList)) ∧ w = w' := by
  unfold maxLen at hs
  go_enter Try.func58, Try.ntmps58
  go_wp2
  go_loop [0, 5] (fun c i => ∃ k : Nat, k ≤ s.size ∧ i = .int .i64 k ∧ c = .int .i64 (ckV n (s.data.toList.take k))) (fun _ i => s.size - (intOf i).toNat)
  case atStart => exact ⟨0, Nat.zero_le _, rfl, rfl⟩
  case round =>
    obtain ⟨k, hk, rfl, rfl⟩ := hrel
    obtain ⟨b0, b1⟩ := ckV_bd n (s.data.toList.take k) h0 h1
    by_cases hlt : k < s.size
    · have HS : Hid (ckV n (s.data.toList.take (k + 1)) = (887 * ckV n (s.data.toList.take k) + (s[k].toNat : Int) + 173) % 65003) := by rw [ck_take s k hlt]; exact ckV_snoc _ _ _
      have hc : (s[k].toNat : Int) < 256 := by have := s[k].toNat_lt; omega
      go_wp2
      go_round
      case rel => exact ⟨k + 1, by omega, by go_num, by rw [HS.out]⟩
      case measure => simp [intOf]; omega
    · go_wp2
      go_ret
      exact ⟨by rw [List.take_of_length_le (by simp; omega)]; rfl, rfl⟩
theorem c_spec_CheckOf (n : Int) (s : ByteArray) (w : World) (hs : s.size ≤ maxLen) (h0 : 0 ≤ n) (h1 : n < 65003) :
    Calls Try.prog 34 #[.int .i64 n, .string s] w fun e w' => e = .returned (.tuple #[.int .i64 (ckV n s.data.toList), .bool true]) ∧ w = w' := by
  have h2 : n ≤ 65002 := by omega
  go_enter Try.func34, Try.ntmps34
  go_wp2_with (first | (go_at_call 57; refine (c_l00In_yes _ _ _ _ h0 h2).mono ?_; rintro e w' ⟨rfl, rfl⟩) | (go_at_call 58; refine (c_spec_l01Check _ _ _ hs h0 h1).mono ?_; rintro e w' ⟨rfl, rfl⟩))
  go_ret2
  exact ⟨rfl, rfl⟩
theorem c_spec_CheckOf_no (n : Int) (s : ByteArray) (w : World) (h : ¬ (0 ≤ n ∧ n < 65003)) :
    Calls Try.prog 34 #[.int .i64 n, .string s] w fun e w' => e = .returned (.tuple #[.int .i64 0, .bool false]) ∧ w = w' := by
  by_cases h1 : n < 0
  · go_enter Try.func34, Try.ntmps34
    go_wp2
    go_ret2
    exact ⟨rfl, rfl⟩
  · have h2 : ¬ n ≤ 65002 := by omega
    have h3 : 0 ≤ n := by omega
    go_enter Try.func34, Try.ntmps34
    go_wp2
    go_ret2
    exact ⟨rfl, rfl⟩
theorem walk_FnExactCheckOf (a0 : Int) (a1 : ByteArray) (w : World) (w0 : (Lit.int .i64 a0).wf = true) (w1 : a1.size ≤ maxLen) :
    Calls Try.prog 11 #[.int .i64 a0, .string a1] w fun e w' => e = .returned (.bool true) ∧ Below w.heap.size w w' := by
  have hs := w1
  unfold maxLen at w1
  by_cases hl : 1048576 < a1.size
  · go_enter Try.func11, Try.ntmps11
    go_wp2
    go_ret
    exact ⟨rfl, Below.refl _ _⟩
  · by_cases h : 0 ≤ a0 ∧ a0 < 65003
    · go_enter Try.func11, Try.ntmps11
      go_wp2_with (first | (go_at_call 34; refine (c_spec_CheckOf _ _ _ hs h.1 h.2).mono ?_; rintro e w' ⟨rfl, rfl⟩) | (go_at_call 35; refine (c_impl_CheckOf _ _ _ hs h.1 h.2).mono ?_; rintro e w' ⟨rfl, rfl⟩))
      go_ret
      exact ⟨rfl, Below.refl _ _⟩
    · have H := Lib.hid h; clear h
      go_enter Try.func11, Try.ntmps11
      go_wp2_with (first | (go_at_call 34; refine (c_spec_CheckOf_no _ _ _ H.out).mono ?_; rintro e w' ⟨rfl, rfl⟩) | (go_at_call 35; refine (c_impl_CheckOf_no _ _ _ H.out).mono ?_; rintro e w' ⟨rfl, rfl⟩))
      go_ret
      exact ⟨rfl, Below.refl _ _⟩
end Go.Proofs.Ytnjkpapjioeffac
