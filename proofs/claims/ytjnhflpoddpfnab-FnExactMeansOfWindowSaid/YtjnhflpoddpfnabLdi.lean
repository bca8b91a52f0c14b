/- LeastHashes by the program. -/
import Derived.Test.YtjnhflpoddpfnabSrw
import Derived.Test.YtjnhflpoddpfnabCom
import Derived.Test.YtjnhflpoddpfnabRow
namespace Go.Proofs.Ytjnhflpoddpfnab
open Go.ChangeShapes Go.WideShapes Go.ChangeAt Go.RowKit
set_option linter.unusedVariables false
def lhR (zs : List Int) (salt room : Int) : List Int × Bool := if keysB zs && (keyB salt && inB 1 room 256) then (leastD room.toNat (rowZ zs salt), true) else ([], false)
theorem lhR_yes {zs : List Int} {salt room : Int} (h : (keysB zs && (keyB salt && inB 1 room 256)) = true) : lhR zs salt room = (leastD room.toNat (rowZ zs salt), true) := by unfold lhR; rw [h]; rfl
theorem lhR_no {zs : List Int} {salt room : Int} (h : (keysB zs && (keyB salt && inB 1 room 256)) = false) : lhR zs salt room = ([], false) := by unfold lhR; rw [h]; rfl
theorem lhR_le {zs : List Int} {salt room : Int} {rz : List Int} {rb : Bool} (h : lhR zs salt room = (rz, rb)) : rz.length ≤ 1048576 := by
  cases hb : keysB zs && (keyB salt && inB 1 room 256)
  · rw [lhR_no hb] at h; cases h; exact Nat.zero_le _
  · rw [lhR_yes hb] at h; cases h
    simp only [Bool.and_eq_true] at hb
    have := leastD_le room.toNat (rowZ zs salt)
    have := (inB_is.1 hb.2.2).2
    omega
theorem RetSB.of_yes {t : TypeId} {n : Nat} {vs : List Value} {b : Bool} {w w' : World} {a : Option Addr} {c : Nat} (hb : b = true) (o : Own t w' w.heap.size w'.heap.size a n c vs) (x : Ext w w') : RetSB t n vs b w (.returned (.tuple #[.slice a n c, .bool true])) w' := by subst hb; exact ⟨_, _, rfl, o, x⟩
set_option maxHeartbeats 1000000 in
theorem c_impl_leastDifferent (lo hi : Nat) (a : Option Addr) (n cap : Nat) (zs : List Int) (room : Int) (w : World) (hn : n ≤ 1048576) (r1 : 1 ≤ room) (r2 : room ≤ 256) (h : Own 2 w lo hi a n cap (ints zs)) :
    Calls Try.prog 82 #[.slice a n cap, .int .i64 room] w fun e w' => e = .returned (.slice a (leastD room.toNat zs).length cap) ∧ Own 2 w' lo hi a (leastD room.toNat zs).length cap (ints (leastD room.toNat zs)) ∧ Touch lo hi w w' := by
  have hl := h.1
  rw [ints_length] at hl
  subst hl
  have hle := Lib.compact_length_le (sortZ zs)
  rw [sortZ_length] at hle
  have hcap := h.2.1
  obtain ⟨q, hq⟩ : ∃ q : Nat, room.toNat = q := ⟨_, rfl⟩
  obtain ⟨m, hm⟩ : ∃ m : Nat, (Lib.compact (sortZ zs)).length = m := ⟨_, rfl⟩
  obtain ⟨k, hk⟩ : ∃ k : Nat, (leastD q zs).length = k := ⟨_, rfl⟩
  have hk' : k = min q m := by rw [← hk]; unfold leastD; rw [List.length_take, hm]
  have hkm : min (m : Int) room = (k : Int) := by omega
  rw [hq, hk]
  have H := Lib.hid h
  have HN := Lib.hid hn
  have HM := Lib.hid hm
  have HK := Lib.hid hk
  have k0 : (0 : Int) ≤ (k : Int) := by omega
  have k1 : k ≤ m := by omega
  have k2 : k ≤ cap := by omega
  have HKM := Lib.hid hkm
  have HQ := Lib.hid hq
  have hkif : (if (m : Int) < room then (m : Int) else room) = (k : Int) := by omega
  have hkif2 : (if room < (m : Int) then room else (m : Int)) = (k : Int) := by omega
  have HKF := Lib.hid hkif
  have HKF2 := Lib.hid hkif2
  clear h hn hq hm hk hk' hkm hle hkif hkif2
  go_enter Try.func82, Try.ntmps82
  go_wp2_with fail
  refine (c_Sort lo hi _ _ _ zs _ HN.out H.out).mono ?_; rintro e w1 ⟨rfl, o1, t1⟩
  have O1 := Lib.hid o1
  have T1 := Lib.hid t1
  clear o1 t1
  go_wp2_with fail
  refine (c_Compact lo hi _ _ _ (sortZ zs) _ HN.out O1.out).mono ?_; rintro e w2 ⟨rfl, o2, t2⟩
  rw [HM.out] at o2 ⊢
  have O2 := Lib.hid o2
  have T2 := Lib.hid t2
  clear o2 t2
  have hc1 : min (m : Int) room = (k : Int) := HKM.out
  go_wp2
  go_ret
  refine ⟨rfl, ?_, T1.out.trans T2.out⟩
  have hk := HK.out
  have hm := HM.out
  have e : (Lib.compact (sortZ zs)).take k = leastD q zs := by
    unfold leastD at hk ⊢
    rw [List.length_take, hm] at hk
    rcases Nat.le_total q m with h1 | h1
    · rw [show k = q by omega]
    · rw [List.take_of_length_le (by omega), List.take_of_length_le (by omega)]
  rw [← e]
  exact O2.out.cut k1
set_option maxHeartbeats 1000000 in
theorem c_impl_LeastHashes (a : Option Addr) (n cap : Nat) (zs : List Int) (salt room : Int) (w : World) {rz : List Int} {rb : Bool} (hv : lhR zs salt room = (rz, rb)) (hm : n ≤ 1048576) (h : Reads w a n (ints zs)) :
    Calls Try.prog 36 #[.slice a n cap, .int .i64 salt, .int .i64 room] w (RetSB 2 rz.length (ints rz) rb w) := by
  have H := Lib.hid h
  have hm' : n ≤ maxLen := by unfold maxLen; omega
  have HM := Lib.hid hm'
  clear h hm hm'
  cases hk : keysB zs
  · rw [lhR_no (by rw [hk]; rfl)] at hv
    cases hv
    have HK := Lib.hid hk
    clear hk
    go_enter Try.func36, Try.ntmps36
    go_wp2_with (go_at_call 80; refine (c_impl_AreKeys_k _ _ _ zs _ HK.out HM.out H.out).mono ?_; rintro e w' ⟨rfl, rfl⟩)
    go_ret2
    exact RetSB.nil _ _
  · cases hs : keyB salt
    · rw [lhR_no (by rw [hk, hs]; rfl)] at hv
      cases hv
      have HK := Lib.hid hk
      have HS := Lib.hid hs
      clear hk hs
      go_enter Try.func36, Try.ntmps36
      go_wp2_with (first | (go_at_call 80; refine (c_impl_AreKeys_k _ _ _ zs _ HK.out HM.out H.out).mono ?_; rintro e w' ⟨rfl, rfl⟩) | (go_at_call 66; refine (c_impl_IsKey_at salt _ HS.out).mono ?_; rintro e w' ⟨rfl, rfl⟩))
      go_ret2
      exact RetSB.nil _ _
    · cases hr : inB 1 room 256
      · rw [lhR_no (by rw [hk, hs, hr]; rfl)] at hv
        cases hv
        have HK := Lib.hid hk
        have HS := Lib.hid hs
        have HR := Lib.hid hr
        clear hk hs hr
        go_enter Try.func36, Try.ntmps36
        go_wp2_with (first | (go_at_call 80; refine (c_impl_AreKeys_k _ _ _ zs _ HK.out HM.out H.out).mono ?_; rintro e w' ⟨rfl, rfl⟩) | (go_at_call 66; refine (c_impl_IsKey_at salt _ HS.out).mono ?_; rintro e w' ⟨rfl, rfl⟩) | (go_at_call 81; refine (c_impl_isRoom room _ HR.out).mono ?_; rintro e w' ⟨rfl, rfl⟩))
        go_ret2
        exact RetSB.nil _ _
      · rw [lhR_yes (by rw [hk, hs, hr]; rfl)] at hv
        cases hv
        have hb := inB_is.1 hr
        have HB := Lib.hid hb
        have HL := Lib.hid (show (rowZ zs salt).length ≤ 1048576 by rw [rowZ_length]; have := keysB_len hk; omega)
        have HZ := Lib.hid (rowZ_length zs salt)
        have HK := Lib.hid hk
        have HS := Lib.hid hs
        have HR := Lib.hid hr
        clear hk hs hr hb
        go_enter Try.func36, Try.ntmps36
        go_wp2_with (first | (go_at_call 80; refine (c_impl_AreKeys_k _ _ _ zs _ HK.out HM.out H.out).mono ?_; rintro e w' ⟨rfl, rfl⟩) | (go_at_call 66; refine (c_impl_IsKey_at salt _ HS.out).mono ?_; rintro e w' ⟨rfl, rfl⟩) | (go_at_call 81; refine (c_impl_isRoom room _ HR.out).mono ?_; rintro e w' ⟨rfl, rfl⟩) | (go_at_call 67; refine (c_impl_hashKeys _ _ _ zs _ _ HK.out HS.out H.out).mono ?_; rintro e w1 ⟨a', c', rfl, o', x'⟩; have O1 := Lib.hid o'; have X1 := Lib.hid x'; clear o' x') | (go_at_call 82; refine (c_impl_leastDifferent _ _ _ _ _ (rowZ zs salt) room _ (by have := HL.out; have := HZ.out; omega) HB.out.1 HB.out.2 O1.out).mono ?_; rintro e w2 ⟨rfl, o2, t2⟩; have O2 := Lib.hid o2; have T2 := Lib.hid t2; clear o2 t2))
        go_ret2
        exact ⟨_, _, rfl, O2.out.wide (Nat.le_refl _) T2.out.size, T2.out.ext X1.out (Nat.le_refl _)⟩
end Go.Proofs.Ytjnhflpoddpfnab
