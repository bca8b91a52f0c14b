/- Keys and hashes: plain facts; what the small functions of both sides answer. -/
import Derived.Test.YtfbapbgiegploaaRows
import Derived.Test.YtfbapbgiegploaaOwn
import Derived.ProofKit
import Derived.OpenShut
import Derived.Handy
import Derived.Laws.BitsAllLaws
import Derived.Laws.Bits64
namespace Go.Proofs.Ytfbapbgiegploaa
open Go.ChangeShapes Go.WideShapes Go.ChangeAt Go.RowKit
set_option linter.unusedVariables false

/-- a key -/
def keyB (k : Int) : Bool := decide (0 ≤ k ∧ k < 4294967296)
theorem keyB_yes {k : Int} (h : keyB k = true) : 0 ≤ k ∧ k < 4294967296 := of_decide_eq_true h
theorem keyB_no {k : Int} (h : ¬ keyB k = true) : k < 0 ∨ 4294967296 ≤ k := by
  unfold keyB at h; simp only [decide_eq_true_eq] at h; omega
theorem keyB_true {k : Int} (h0 : 0 ≤ k) (h1 : k < 4294967296) : keyB k = true := decide_eq_true ⟨h0, h1⟩
theorem keyB_low {k : Int} (h : k < 0) : keyB k = false := decide_eq_false (by omega)
theorem keyB_high {k : Int} (h : 4294967296 ≤ k) : keyB k = false := decide_eq_false (by omega)
/-- all digits mixed -/
def mixN (x : Nat) : Nat :=
  let a := (x ^^^ x / 1073741824) * 13787848793156543929 % 18446744073709551616
  let b := (a ^^^ a / 134217728) * 10723151780598845931 % 18446744073709551616
  b ^^^ b / 2147483648
theorem mixN_lt (x : Nat) : mixN x < 18446744073709551616 := by
  unfold mixN
  have h1 : (((x ^^^ x / 1073741824) * 13787848793156543929 % 18446744073709551616 ^^^ (x ^^^ x / 1073741824) * 13787848793156543929 % 18446744073709551616 / 134217728) * 10723151780598845931 % 18446744073709551616) < 2 ^ 64 := Nat.mod_lt _ (by decide)
  exact Nat.xor_lt_two_pow h1 (Nat.lt_of_le_of_lt (Nat.div_le_self _ _) h1)
theorem mix_eq (x : Nat) (h : x < 18446744073709551616) :
    bits .xor .u64 (IntKind.u64.wrap (bits .xor .u64 (IntKind.u64.wrap (bits .xor .u64 (x : Int) ((x : Int) / 1073741824) * 13787848793156543929)) (IntKind.u64.wrap (bits .xor .u64 (x : Int) ((x : Int) / 1073741824) * 13787848793156543929) / 134217728) * 10723151780598845931))
      (IntKind.u64.wrap (bits .xor .u64 (IntKind.u64.wrap (bits .xor .u64 (x : Int) ((x : Int) / 1073741824) * 13787848793156543929)) (IntKind.u64.wrap (bits .xor .u64 (x : Int) ((x : Int) / 1073741824) * 13787848793156543929) / 134217728) * 10723151780598845931) / 2147483648) = (mixN x : Int) := by
  have e1 := mixStep_u64 x 1073741824 13787848793156543929 h
  have e1' : IntKind.u64.wrap (bits .xor .u64 (x : Int) ((x : Int) / 1073741824) * 13787848793156543929) = (((x ^^^ x / 1073741824) * 13787848793156543929 % 18446744073709551616 : Nat) : Int) := e1
  rw [e1']
  have e2 := mixStep_u64 ((x ^^^ x / 1073741824) * 13787848793156543929 % 18446744073709551616) 134217728 10723151780598845931 (Nat.mod_lt _ (by decide))
  have e2' : IntKind.u64.wrap (bits .xor .u64 (((x ^^^ x / 1073741824) * 13787848793156543929 % 18446744073709551616 : Nat) : Int) ((((x ^^^ x / 1073741824) * 13787848793156543929 % 18446744073709551616 : Nat) : Int) / 134217728) * 10723151780598845931) = _ := e2
  rw [e2']
  exact xorShift_u64 _ 2147483648 (Nat.mod_lt _ (by decide))
/-- the hash of a key -/
def wordN (key salt : Int) : Nat := ((key + salt * 4294967296 + 11400714819323198485) % 18446744073709551616).toNat
def hashN (key salt : Int) : Nat := mixN (wordN key salt) / 4294967296
theorem wordN_lt (key salt : Int) : wordN key salt < 18446744073709551616 := by unfold wordN; omega
theorem hashN_lt (key salt : Int) : hashN key salt < 4294967296 := by have := mixN_lt (wordN key salt); unfold hashN; omega
theorem wordN_eq (key salt : Int) : ((wordN key salt : Nat) : Int) = (key + salt * 4294967296 + 11400714819323198485) % 18446744073709551616 := by unfold wordN; omega
theorem hashN_eq (key salt : Int) : ((mixN (wordN key salt) : Nat) : Int) / 4294967296 = ((hashN key salt : Nat) : Int) := by unfold hashN; omega
theorem nbool {a b : Bool} (h : a = b) : Ending.returned (.bool a) = Ending.returned (.bool b) := by rw [h]
theorem c_impl_IsKey (k : Int) (w : World) : Calls Try.prog 126 #[.int .i64 k] w fun e w' => e = .returned (.bool (keyB k)) ∧ w = w' := by
  by_cases h0 : k < 0
  · have H := Lib.hid (keyB_low h0)
    go_enter Try.func126, Try.ntmps126
    go_wp2
    go_ret
    exact ⟨by first | (rw [H.out]; rfl) | exact nbool (by rw [H.out]; first | exact decide_eq_false (by omega) | exact decide_eq_true (by omega)), rfl⟩
  · by_cases h1 : k < 4294967296
    · have H := Lib.hid (keyB_true (by omega) h1)
      have h0' : 0 ≤ k := by omega
      clear h0
      go_enter Try.func126, Try.ntmps126
      go_wp2
      go_ret
      exact ⟨by first | (rw [H.out]; rfl) | exact nbool (by rw [H.out]; first | exact decide_eq_false (by omega) | exact decide_eq_true (by omega)), rfl⟩
    · have H := Lib.hid (keyB_high (show 4294967296 ≤ k by omega))
      have h0' : 0 ≤ k := by omega
      have h1' : 4294967296 ≤ k := by omega
      clear h0 h1
      go_enter Try.func126, Try.ntmps126
      go_wp2
      go_ret
      exact ⟨by first | (rw [H.out]; rfl) | exact nbool (by rw [H.out]; first | exact decide_eq_false (by omega) | exact decide_eq_true (by omega)), rfl⟩
theorem c_l00In_key (k : Int) (w : World) : Calls Try.prog 242 #[.int .i64 k, .int .i64 0, .int .i64 4294967295] w fun e w' => e = .returned (.bool (keyB k)) ∧ w = w' := by
  by_cases h0 : k < 0
  · have H := Lib.hid (keyB_low h0)
    go_enter Try.func242, Try.ntmps242
    go_wp2
    go_ret
    exact ⟨by first | (rw [H.out]; rfl) | exact nbool (by rw [H.out]; first | exact decide_eq_false (by omega) | exact decide_eq_true (by omega)), rfl⟩
  · by_cases h1 : k < 4294967296
    · have H := Lib.hid (keyB_true (by omega) h1)
      have h0' : 0 ≤ k := by omega
      have h1' : k ≤ 4294967295 := by omega
      clear h0 h1
      go_enter Try.func242, Try.ntmps242
      go_wp2
      go_ret
      exact ⟨by first | (rw [H.out]; rfl) | exact nbool (by rw [H.out]; first | exact decide_eq_false (by omega) | exact decide_eq_true (by omega)), rfl⟩
    · have H := Lib.hid (keyB_high (show 4294967296 ≤ k by omega))
      have h0' : 0 ≤ k := by omega
      have h1' : 4294967295 < k := by omega
      clear h0 h1
      go_enter Try.func242, Try.ntmps242
      go_wp2
      go_ret
      exact ⟨by first | (rw [H.out]; rfl) | exact nbool (by rw [H.out]; first | exact decide_eq_false (by omega) | exact decide_eq_true (by omega)), rfl⟩
/-- whether a number lies between two others -/
def inB (lo k hi : Int) : Bool := decide (lo ≤ k ∧ k ≤ hi)
theorem inB_yes {lo k hi : Int} (h0 : lo ≤ k) (h1 : k ≤ hi) : inB lo k hi = true := decide_eq_true ⟨h0, h1⟩
theorem inB_no {lo k hi : Int} (h : ¬ (lo ≤ k ∧ k ≤ hi)) : inB lo k hi = false := decide_eq_false h
theorem c_l00In (k lo hi : Int) (w : World) : Calls Try.prog 242 #[.int .i64 k, .int .i64 lo, .int .i64 hi] w fun e w' => e = .returned (.bool (inB lo k hi)) ∧ w = w' := by
  by_cases h0 : lo ≤ k
  · by_cases h1 : k ≤ hi
    · have H := Lib.hid (inB_yes h0 h1)
      go_enter Try.func242, Try.ntmps242
      go_wp2
      go_ret
      exact ⟨by first | (rw [H.out]; rfl) | exact nbool (by rw [H.out]; first | exact decide_eq_false (by omega) | exact decide_eq_true (by omega)), rfl⟩
    · have H := Lib.hid (show inB lo k hi = false from inB_no (by omega))
      have h1' : hi < k := by omega
      clear h1
      go_enter Try.func242, Try.ntmps242
      go_wp2
      go_ret
      exact ⟨by first | (rw [H.out]; rfl) | exact nbool (by rw [H.out]; first | exact decide_eq_false (by omega) | exact decide_eq_true (by omega)), rfl⟩
  · have H := Lib.hid (show inB lo k hi = false from inB_no (by omega))
    have h0' : k < lo := by omega
    clear h0
    go_enter Try.func242, Try.ntmps242
    go_wp2
    go_ret
    exact ⟨by first | (rw [H.out]; rfl) | exact nbool (by rw [H.out]; first | exact decide_eq_false (by omega) | exact decide_eq_true (by omega)), rfl⟩
theorem c_spec_l02Key (k : Int) (w : World) : Calls Try.prog 174 #[.int .i64 k] w fun e w' => e = .returned (.bool (keyB k)) ∧ w = w' := by
  go_enter Try.func174, Try.ntmps174
  go_wp2_with (go_at_call 242; refine (c_l00In_key _ _).mono ?_; rintro e w' ⟨rfl, rfl⟩)
  go_ret
  exact ⟨rfl, rfl⟩
theorem c_impl_MixHash (x : Nat) (w : World) (h : x < 18446744073709551616) : Calls Try.prog 230 #[.int .u64 x] w fun e w' => e = .returned (.int .u64 (mixN x)) ∧ w = w' := by
  have H := Lib.hid (mix_eq x h)
  go_enter Try.func230, Try.ntmps230
  go_wp2
  go_ret
  exact ⟨by rw [← H.out]; rfl, rfl⟩
theorem c_spec_l02Mix (x : Nat) (w : World) (h : x < 18446744073709551616) : Calls Try.prog 316 #[.int .u64 x] w fun e w' => e = .returned (.int .u64 (mixN x)) ∧ w = w' := by
  have H := Lib.hid (mix_eq x h)
  go_enter Try.func316, Try.ntmps316
  go_wp2
  go_ret
  exact ⟨by rw [← H.out]; rfl, rfl⟩
theorem c_impl_hashKey (key salt : Int) (w : World) (hk : keyB key = true) (hs : keyB salt = true) : Calls Try.prog 147 #[.int .i64 key, .int .i64 salt] w fun e w' => e = .returned (.int .i64 (hashN key salt : Nat)) ∧ w = w' := by
  obtain ⟨k0, k1⟩ := keyB_yes hk
  obtain ⟨s0, s1⟩ := keyB_yes hs
  have hl := wordN_lt key salt
  have HW := Lib.hid (wordN_eq key salt)
  have HE := Lib.hid (hashN_eq key salt)
  have hm := mixN_lt (wordN key salt)
  clear hk hs
  go_enter Try.func147, Try.ntmps147
  go_wp2_with fail
  first | rw [← HW.out] | (rw [IntKind.wrap_u64]; rw [← HW.out])
  refine (c_impl_MixHash _ _ hl).mono ?_; rintro e w' ⟨rfl, rfl⟩
  go_wp2
  go_ret
  exact ⟨by rw [← HE.out]; rfl, rfl⟩
theorem c_spec_l02Hash (key salt : Int) (w : World) (hk : keyB key = true) (hs : keyB salt = true) : Calls Try.prog 291 #[.int .i64 key, .int .i64 salt] w fun e w' => e = .returned (.int .i64 (hashN key salt : Nat)) ∧ w = w' := by
  obtain ⟨k0, k1⟩ := keyB_yes hk
  obtain ⟨s0, s1⟩ := keyB_yes hs
  have hl := wordN_lt key salt
  have HW := Lib.hid (wordN_eq key salt)
  have HE := Lib.hid (hashN_eq key salt)
  have hm := mixN_lt (wordN key salt)
  clear hk hs
  go_enter Try.func291, Try.ntmps291
  go_wp2_with fail
  first | rw [← HW.out] | (rw [IntKind.wrap_u64]; rw [← HW.out])
  refine (c_spec_l02Mix _ _ hl).mono ?_; rintro e w' ⟨rfl, rfl⟩
  go_wp2
  go_ret
  exact ⟨by rw [← HE.out]; rfl, rfl⟩
end Go.Proofs.Ytfbapbgiegploaa
