/- LeastHash: what both sides answer, whole. -/
import Derived.Test.YtmlnnnagbkknhaaLea
namespace Go.Proofs.Ytmlnnnagbkknhaa
open Go.ChangeShapes Go.WideShapes Go.ChangeAt Go.RowKit
set_option linter.unusedVariables false
theorem row_hash (zs : List Int) (salt : Int) (i : Nat) (h : i < zs.length) : (rowZ zs salt)[i]?.getD 0 = hashAt zs salt i := rowZ_get zs salt i h
theorem row_least (zs : List Int) (salt : Int) : leastAt (fun i => (rowZ zs salt)[i]?.getD 0) (rowZ zs salt).length = leastAt (hashAt zs salt) zs.length := by
  rw [rowZ_length]
  exact leastAt_congr fun i hi => row_hash zs salt i hi
theorem both_no {zs : List Int} {salt : Int} (h : (keysB zs && keyB salt) = false) : leastB zs salt = false := by unfold leastB; rw [h]; rfl
theorem both_mk {zs : List Int} {salt : Int} (h : (keysB zs && keyB salt) = true) : keysB zs = true ∧ keyB salt = true := by simpa using h
theorem c_impl_HashRow_of (a : Option Addr) (n cap : Nat) (zs : List Int) (salt : Int) (w : World) {b : Bool} {rs : List Int} (hb : (keysB zs && keyB salt) = b) (hr : rowV zs salt = rs) (hm : n ≤ maxLen) (h : Reads w a n (ints zs)) :
    Calls Try.prog 95 #[.slice a n cap, .int .i64 salt] w (RetSB 2 rs.length (ints rs) b w) := by
  subst hb; subst hr; exact c_impl_HashRow a n cap zs salt w hm h
theorem c_firstLeast_of (a : Option Addr) (n cap : Nat) (zs : List Int) (w : World) {m : Nat} (hmm : leastAt (fun i => zs[i]?.getD 0) n = m) (hn : n ≤ 1048576) (h1 : 1 ≤ n) (h : Reads w a n (ints zs)) :
    Calls Try.prog 82 #[.slice a n cap, .func (.func 83) #[] #[]] w fun e w' => e = .returned (.int .i64 (m : Nat)) ∧ w = w' := by
  subst hmm; exact c_firstLeast a n cap zs w hn h1 h
set_option maxHeartbeats 1000000 in
theorem c_impl_LeastHash (a : Option Addr) (n cap : Nat) (zs : List Int) (salt : Int) (w : World) (hm : n ≤ maxLen) (h : Reads w a n (ints zs)) :
    Calls Try.prog 70 #[.slice a n cap, .int .i64 salt] w fun e w' => e = .returned (.tuple #[.int .i64 (leastH zs salt), .int .i64 (leastI zs salt), .bool (leastB zs salt)]) ∧ Ext w w' := by
  have H := Lib.hid h
  cases hb : keysB zs && keyB salt
  · have HB := Lib.hid hb
    have HL := Lib.hid (both_no hb)
    have HR := Lib.hid (rowV_no hb)
    rw [leastH_no HL.out, leastI_no HL.out, HL.out]
    clear hb h
    go_enter Try.func70, Try.ntmps70
    go_wp2_with fail
    refine (c_impl_HashRow_of _ _ _ zs salt _ HB.out HR.out hm H.out).mono ?_; rintro e w1 ⟨a', c', rfl, o', x'⟩
    have HX := Lib.hid x'
    clear o' x'
    go_wp2
    go_ret3
    exact ⟨rfl, HX.out⟩
  · obtain ⟨hk, hs⟩ := both_mk hb
    have HB := Lib.hid hb
    have HR := Lib.hid (rowV_yes hk hs)
    have hzl := keysB_len hk
    by_cases h0 : zs.length = 0
    · have HL := Lib.hid (leastB_3 (salt := salt) h0)
      have HZ := Lib.hid (show rowV zs salt = [] by rw [HR.out]; exact List.eq_nil_of_length_eq_zero (by rw [rowZ_length]; exact h0))
      rw [leastH_no HL.out, leastI_no HL.out, HL.out]
      clear hb h hk hs h0
      go_enter Try.func70, Try.ntmps70
      go_wp2_with fail
      refine (c_impl_HashRow_of _ _ _ zs salt _ HB.out HZ.out hm H.out).mono ?_; rintro e w1 ⟨a', c', rfl, o', x'⟩
      have HX := Lib.hid x'
      clear o' x'
      go_wp2
      go_ret3
      exact ⟨rfl, HX.out⟩
    · have HL := Lib.hid (leastB_mk hk hs (show 1 ≤ zs.length by omega))
      rw [leastH_yes HL.out, leastI_yes HL.out, HL.out]
      obtain ⟨m, hmm⟩ : ∃ m, leastAt (hashAt zs salt) zs.length = m := ⟨_, rfl⟩
      have hml : m < zs.length := by rw [← hmm]; exact leastAt_le _ _ (by omega)
      obtain ⟨u, hu⟩ : ∃ u, hashAt zs salt m = u := ⟨_, rfl⟩
      have HM := Lib.hid (show leastAt (fun i => (rowZ zs salt)[i]?.getD 0) (rowZ zs salt).length = m by rw [row_least, hmm])
      have HU := Lib.hid (show (rowZ zs salt)[m]?.getD 0 = u by rw [row_hash zs salt m hml, hu])
      rw [hmm, hu]
      obtain ⟨rs, hrs⟩ : ∃ rs, rowZ zs salt = rs := ⟨_, rfl⟩
      have hrl : rs.length = zs.length := by rw [← hrs, rowZ_length]
      rw [hrs] at HM HU HR
      obtain ⟨L, hL⟩ : ∃ L, rs.length = L := ⟨_, rfl⟩
      have HLL := Lib.hid hL
      have HM2 := Lib.hid (show leastAt (fun i => rs[i]?.getD 0) L = m by rw [← hL]; exact HM.out)
      have hL1 : 1 ≤ L := by omega
      have hL2 : L ≤ 256 := by omega
      have hmL : m < L := by omega
      clear hb h hk hs h0 hmm hu hrs hrl hL hml
      go_enter Try.func70, Try.ntmps70
      go_wp2_with fail
      refine (c_impl_HashRow_of _ _ _ zs salt _ HB.out HR.out hm H.out).mono ?_; rintro e w1 ⟨a', c', rfl, o', x'⟩
      rw [HLL.out] at o' ⊢
      have HX := Lib.hid x'
      have HO := Lib.hid o'.reads
      rcases o'.reads.int.2 with h0 | ⟨b, off, rfl, hc⟩
      · omega
      have hcell := hc m hmL
      rw [HU.out] at hcell
      clear o' x' hc
      go_wp2_with (go_at_call 82; refine (c_firstLeast_of (m := m) _ _ _ rs _ HM2.out (by omega) hL1 HO.out).mono ?_; rintro e w' ⟨rfl, rfl⟩)
      go_ret3
      exact ⟨rfl, HX.out⟩
end Go.Proofs.Ytmlnnnagbkknhaa
