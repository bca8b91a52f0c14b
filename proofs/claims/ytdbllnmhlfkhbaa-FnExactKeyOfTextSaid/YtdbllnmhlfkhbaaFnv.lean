/- KeyOfText: what both sides answer; the law's walk. -/
import Derived.Test.YtdbllnmhlfkhbaaHas
import Derived.WalkLawsBesides
namespace Go.Proofs.Ytdbllnmhlfkhbaa
open Go.ChangeShapes Go.WideShapes Go.ChangeAt Go.RowKit
set_option linter.unusedVariables false
/-- the key of bytes -/
def kvS (n : Nat) (c : UInt8) : Nat := (n ^^^ c.toNat) * 16777619 % 4294967296
def kvN (l : List UInt8) : Nat := l.foldl kvS 2166136261
theorem kvN_snoc (l : List UInt8) (c : UInt8) : kvN (l ++ [c]) = kvS (kvN l) c := by
  unfold kvN; rw [List.foldl_append, List.foldl_cons, List.foldl_nil]
theorem kvS_lt (n : Nat) (c : UInt8) : kvS n c < 4294967296 := Nat.mod_lt _ (by decide)
theorem kvN_lt (l : List UInt8) : kvN l < 4294967296 := by
  rcases List.eq_nil_or_concat l with rfl | ⟨m, c, rfl⟩
  · decide
  · rw [List.concat_eq_append, kvN_snoc]; exact kvS_lt _ _
theorem kv_take (s : ByteArray) (k : Nat) (h : k < s.size) : s.data.toList.take (k + 1) = s.data.toList.take k ++ [s[k]] := by
  rw [List.take_succ_eq_append_getElem (by simpa using h)]; rfl
theorem kv_step (s : ByteArray) (k : Nat) (h : k < s.size) : kvN (s.data.toList.take (k + 1)) = kvS (kvN (s.data.toList.take k)) s[k] := by rw [kv_take s k h, kvN_snoc]
theorem bits_xor_i64_nat (a b : Nat) (ha : a < 9223372036854775808) (hb : b < 9223372036854775808) : bits .xor .i64 (a : Int) (b : Int) = ((a ^^^ b : Nat) : Int) := by
  have hx : a ^^^ b < 2 ^ 63 := Nat.xor_lt_two_pow (by omega) (by omega)
  have h1 : (BitVec.ofInt 64 (a : Int)).toNat = a := by
    rw [BitVec.ofInt_natCast, BitVec.toNat_ofNat]; exact Nat.mod_eq_of_lt (by omega)
  have h2 : (BitVec.ofInt 64 (b : Int)).toNat = b := by
    rw [BitVec.ofInt_natCast, BitVec.toNat_ofNat]; exact Nat.mod_eq_of_lt (by omega)
  show IntKind.i64.wrap ((BitVec.ofInt 64 (a : Int) ^^^ BitVec.ofInt 64 (b : Int)).toNat : Int) = _
  rw [BitVec.toNat_xor, h1, h2, IntKind.wrap_i64]
  omega
theorem kv_xor_lt (n c : Nat) (hn : n < 4294967296) (hc : c < 256) : n ^^^ c < 4294967296 := Nat.xor_lt_two_pow (n := 32) hn (by omega)
theorem kv_u32 (n : Nat) (c : UInt8) (hn : n < 4294967296) : bits .xor .u32 (n : Int) (c.toNat : Int) * 16777619 % 4294967296 = ((kvS n c : Nat) : Int) := by
  have := c.toNat_lt
  rw [u32_xor_nat n c.toNat hn (by omega)]
  unfold kvS
  generalize n ^^^ c.toNat = x
  omega
theorem kv_mul (n : Nat) (c : UInt8) : ((n ^^^ c.toNat : Nat) : Int) * 16777619 % 4294967296 = ((kvS n c : Nat) : Int) := by
  unfold kvS
  generalize n ^^^ c.toNat = x
  omega
theorem kv_i64 (n c : Nat) (hn : n < 4294967296) (hc : c < 256) : bits .xor .i64 (n : Int) (c : Int) = ((n ^^^ c : Nat) : Int) := bits_xor_i64_nat n c (by omega) (by omega)
theorem c_impl_KeyOfText (s : ByteArray) (w : World) (hs : s.size ≤ maxLen) :
    Calls Try.prog 36 #[.string s] w fun e w' => e = .returned (.int .i64 (kvN s.data.toList : Nat)) ∧ w = w' := by
  unfold maxLen at hs
  go_enter Try.func36, Try.ntmps36
  go_wp2
  go_loop [3, 7] (fun c i => ∃ k : Nat, k ≤ s.size ∧ i = .int .i64 k ∧ c = .int .u32 (kvN (s.data.toList.take k) : Nat)) (fun _ i => s.size - (intOf i).toNat)
  case atStart => exact ⟨0, Nat.zero_le _, rfl, rfl⟩
  case round =>
    obtain ⟨k, hk, rfl, rfl⟩ := hrel
    have hb := kvN_lt (s.data.toList.take k)
    by_cases hlt : k < s.size
    · have HS := Lib.hid (kv_step s k hlt)
      have hc : (s[k].toNat : Int) < 256 := by have := s[k].toNat_lt; omega
      have HU := Lib.hid (kv_u32 (kvN (s.data.toList.take k)) s[k] hb)
      go_wp2
      go_round
      case rel => exact ⟨k + 1, by omega, by go_num, by rw [HS.out, ← HU.out]⟩
      case measure => simp [intOf]; omega
    · go_wp2
      go_ret
      exact ⟨by rw [List.take_of_length_le (by simp; omega)]; rfl, rfl⟩
theorem c_spec_l02Text (s : ByteArray) (w : World) (hs : s.size ≤ maxLen) :
    Calls Try.prog 56 #[.string s] w fun e w' => e = .returned (.int .i64 (kvN s.data.toList : Nat)) ∧ w = w' := by
  unfold maxLen at hs
  go_enter Try.func56, Try.ntmps56
  go_wp2
  go_loop [3, 4] (fun c i => ∃ k : Nat, k ≤ s.size ∧ i = .int .i64 k ∧ c = .int .i64 (kvN (s.data.toList.take k) : Nat)) (fun _ i => s.size - (intOf i).toNat)
  case atStart => exact ⟨0, Nat.zero_le _, rfl, rfl⟩
  case round =>
    obtain ⟨k, hk, rfl, rfl⟩ := hrel
    have hb := kvN_lt (s.data.toList.take k)
    by_cases hlt : k < s.size
    · have HS := Lib.hid (kv_step s k hlt)
      have hc : (s[k].toNat : Int) < 256 := by have := s[k].toNat_lt; omega
      have hx := kv_i64 (kvN (s.data.toList.take k)) s[k].toNat hb (by omega)
      have HM := Lib.hid (kv_mul (kvN (s.data.toList.take k)) s[k])
      have hxl : ((kvN (s.data.toList.take k) ^^^ s[k].toNat : Nat) : Int) < 4294967296 := by have := kv_xor_lt _ _ hb (show s[k].toNat < 256 by omega); omega
      go_wp2
      go_round
      case rel => exact ⟨k + 1, by omega, by go_num, by rw [HS.out, ← HM.out]⟩
      case measure => simp [intOf]; omega
    · go_wp2
      go_ret
      exact ⟨by rw [List.take_of_length_le (by simp; omega)]; rfl, rfl⟩
theorem c_spec_KeyOfText (s : ByteArray) (w : World) (hs : s.size ≤ maxLen) :
    Calls Try.prog 35 #[.string s] w fun e w' => e = .returned (.int .i64 (kvN s.data.toList : Nat)) ∧ w = w' := by
  go_enter Try.func35, Try.ntmps35
  go_wp2_with (go_at_call 56; refine (c_spec_l02Text _ _ hs).mono ?_; rintro e w' ⟨rfl, rfl⟩)
  go_ret
  exact ⟨rfl, rfl⟩
theorem walk_FnExactKeyOfText (a0 : ByteArray) (w : World) (w0 : a0.size ≤ maxLen) :
    Calls Try.prog 11 #[.string a0] w fun e w' => e = .returned (.bool true) ∧ Below w.heap.size w w' := by
  have hs := w0
  unfold maxLen at w0
  by_cases hl : 1048576 < a0.size
  · go_enter Try.func11, Try.ntmps11
    go_wp2
    go_ret
    exact ⟨rfl, Below.refl _ _⟩
  · go_enter Try.func11, Try.ntmps11
    go_wp2_with (first | (go_at_call 35; refine (c_spec_KeyOfText _ _ hs).mono ?_; rintro e w' ⟨rfl, rfl⟩) | (go_at_call 36; refine (c_impl_KeyOfText _ _ hs).mono ?_; rintro e w' ⟨rfl, rfl⟩))
    go_ret
    exact ⟨rfl, Below.refl _ _⟩
end Go.Proofs.Ytdbllnmhlfkhbaa
