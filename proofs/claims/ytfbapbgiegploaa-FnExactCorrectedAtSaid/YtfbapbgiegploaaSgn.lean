/- Signs of keys; what SignedAt needs of the cells' functions. -/
import Derived.Test.YtfbapbgiegploaaPlb
import Derived.Test.YtfbapbgiegploaaCat
namespace Go.Proofs.Ytfbapbgiegploaa
open Go.ChangeShapes Go.WideShapes Go.ChangeAt Go.RowKit
set_option linter.unusedVariables false
theorem wrap_mid {x : Int} (h1 : -4611686018427387904 ≤ x) (h2 : x ≤ 4611686018427387904) : IntKind.i64.wrap x = x := by rw [IntKind.wrap_i64]; omega
theorem ret_i {a b : Int} (h : a = b) : Ending.returned (.int .i64 a) = .returned (.int .i64 b) := by rw [h]
theorem ret_ib {a b : Int} {c : Bool} (h : a = b) : Ending.returned (.tuple #[.int .i64 a, .bool c]) = .returned (.tuple #[.int .i64 b, .bool c]) := by rw [h]
/-- the sign of a key in a row -/
def sgZ (S key : Int) (i : Nat) : Int := signV key (saltZ S (1000 + i))
theorem sgZ_one (S key : Int) (i : Nat) (hk : keyB key = true) : sgZ S key i = 1 ∨ sgZ S key i = -1 := by
  have hb : (keyB key && keyB (saltZ S (1000 + i))) = true := by rw [hk, saltZ_key]; rfl
  unfold sgZ
  by_cases h : hashN key (saltZ S (1000 + i)) < 2147483648
  · exact .inl (signV_low hb h)
  · exact .inr (signV_high hb h)
theorem wrap_sg {y s : Int} (hs : s = 1 ∨ s = -1) (h0 : -1000000 ≤ y) (h1 : y ≤ 1000000) : IntKind.i64.wrap (y * s) = y * s ∧ -1000000 ≤ y * s ∧ y * s ≤ 1000000 := by
  rcases hs with rfl | rfl
  · rw [Int.mul_one]; exact ⟨wrap_mid (by omega) (by omega), h0, h1⟩
  · have e : y * -1 = -y := by omega
    rw [e]; exact ⟨wrap_mid (by omega) (by omega), by omega, by omega⟩
theorem c_impl_SignOf_v (key salt v : Int) (w : World) (hk : keyB key = true) (hs : keyB salt = true) (hv : signV key salt = v) : Calls Try.prog 225 #[.int .i64 key, .int .i64 salt] w fun e w' => e = .returned (.tuple #[.int .i64 v, .bool true]) ∧ w = w' := by
  have := c_impl_SignOf key salt w
  rw [hk, hs, hv] at this
  exact this
theorem c_impl_saltAfter_e (S : Int) (i : Nat) (z : Int) (w : World) (hs : keyB S = true) (hi : i ≤ 1000000) (hz : saltZ S i = z) {ri : Int} (hri : (i : Int) = ri) : Calls Try.prog 148 #[.int .i64 S, .int .i64 ri] w fun e w' => e = .returned (.int .i64 z) ∧ w = w' := by
  subst hri; exact (c_impl_saltAfter_v S i z w hs hi hz).mono (by rintro e w' ⟨rfl, rfl⟩; exact ⟨rfl, rfl⟩)
theorem c_impl_signIn (W D S key : Int) (a : Option Addr) (n cap i : Nat) (w : World) (hi : i ≤ 6) (hs : keyB S = true) (hk : keyB key = true) {v : Int} (hv : sgZ S key i = v) :
    Calls Try.prog 135 #[.agg #[.int .i64 W, .int .i64 D, .int .i64 S, .slice a n cap], .int .i64 key, .int .i64 i] w fun e w' => e = .returned (.int .i64 v) ∧ Ext w w' := by
  obtain ⟨z, hz⟩ : ∃ z, saltZ S (1000 + i) = z := ⟨_, rfl⟩
  have HZ := Lib.hid hz
  have HK := Lib.hid hk
  have HS := Lib.hid hs
  have HZK := Lib.hid (show keyB z = true by rw [← hz]; exact saltZ_key S _)
  have HV := Lib.hid (show signV key z = v by rw [← hz]; exact hv)
  have e1 : ((1000 + i : Nat) : Int) = 1000 + (i : Int) := by omega
  have E := Lib.hid e1
  clear hz hk hs hv e1
  go_enter Try.func135, Try.ntmps135
  go_wp2_with fail
  refine (c_impl_saltAfter_e S (1000 + i) z _ HS.out (by omega) HZ.out E.out).mono ?_; rintro e w' ⟨rfl, rfl⟩
  go_wp2_with fail
  refine (c_impl_SignOf_v key z v _ HK.out HZK.out HV.out).mono ?_; rintro e w' ⟨rfl, rfl⟩
  go_wp2
  go_ret
  exact ⟨rfl, by (repeat (first | assumption | exact Ext.refl _ | (with_reducible refine Ext.stepS ?_ (by first | exact Nat.le_refl _ | (simp; done) | (simp; omega)) _) | (with_reducible refine Ext.stepN ?_ _) | (with_reducible refine Ext.stepD ?_) | (with_reducible refine Ext.stepA ?_ _)))⟩
theorem c_spec_l03Place_0 (b m : Nat) (D S key : Int) (a : Option Addr) (n cap : Nat) (w : World) (h1 : 1 ≤ m) (h2 : m ≤ 64) (hs : keyB S = true) (hk : keyB key = true)
    (hb : Box w b 57 #[.int .i64 m, .int .i64 D, .int .i64 S, .slice a n cap]) {p : Nat} (hp : placeN m S key 0 = p) :
    Calls Try.prog 175 #[.pointer (some ⟨b, 0, none⟩), .int .i64 key, .int .i64 0] w fun e w' => e = .returned (.int .i64 (p : Nat)) ∧ ∃ q, w' = w.drewN q := by
  subst hp; exact c_spec_l03Place b m D S key a n cap 0 w h1 h2 (by omega) hs hk hb
theorem c_spec_l03Place_v (b m : Nat) (D S key : Int) (a : Option Addr) (n cap i : Nat) (w : World) (h1 : 1 ≤ m) (h2 : m ≤ 64) (hi : i ≤ 6) (hs : keyB S = true) (hk : keyB key = true)
    (hb : Box w b 57 #[.int .i64 m, .int .i64 D, .int .i64 S, .slice a n cap]) {p : Nat} (hp : placeN m S key i = p) :
    Calls Try.prog 175 #[.pointer (some ⟨b, 0, none⟩), .int .i64 key, .int .i64 i] w fun e w' => e = .returned (.int .i64 (p : Nat)) ∧ ∃ q, w' = w.drewN q := by
  subst hp; exact c_spec_l03Place b m D S key a n cap i w h1 h2 hi hs hk hb
theorem Box.drew' {w : World} {b : Nat} {t : TypeId} {vs : Array Value} (h : Box w b t vs) (n : Nat) : Box (w.drewN n) b t vs := h.on (Ext.drewN w n)
set_option maxHeartbeats 1000000 in
theorem c_impl_countsAt_no (W D S : Int) (a : Option Addr) (n cap : Nat) (zs : List Int) (key : Int) (w : World) (hv : placesR W D S zs key = ([], false)) (hm : n ≤ maxLen) (h : Reads w a n (ints zs)) :
    Calls Try.prog 136 #[.agg #[.int .i64 W, .int .i64 D, .int .i64 S, .slice a n cap], .int .i64 key] w fun e w' => (∃ pa pc, e = .returned (.tuple #[.slice pa 0 pc, .bool false])) ∧ Ext w w' := by
  have H := Lib.hid h
  have HV := Lib.hid hv
  clear h hv
  go_enter Try.func136, Try.ntmps136
  go_wp2_with fail
  refine (c_impl_PlacesOf W D S _ n cap zs key _ HV.out hm (H.out.on (by (repeat (first | assumption | exact Ext.refl _ | (with_reducible refine Ext.stepS ?_ (by first | exact Nat.le_refl _ | (simp; done) | (simp; omega)) _) | (with_reducible refine Ext.stepN ?_ _) | (with_reducible refine Ext.stepD ?_) | (with_reducible refine Ext.stepA ?_ _)))))).mono ?_; rintro e wa ⟨pa, pc, rfl, o', x'⟩
  have X1 : Ext w wa := (Ext.alloc _ _).trans x'
  clear o' x'
  go_wp2
  go_loop [18] (fun i => i = .int .i64 0) (fun _ => 0)
  case atStart => rfl
  case round =>
    subst hrel
    go_wp2
    go_ret2
    exact ⟨⟨_, _, rfl⟩, X1⟩
end Go.Proofs.Ytfbapbgiegploaa
