/- ChiOfKeys: what both sides answer. -/
import Derived.Test.YtdbllnmhlfkhbabCon
import Derived.Test.YtdbllnmhlfkhbabSpr
namespace Go.Proofs.Ytdbllnmhlfkhbab
open Go.ChangeShapes Go.WideShapes Go.ChangeAt Go.RowKit Go.Proofs.Ytdbllnmhlfkhbab.Flo
set_option linter.unusedVariables false
attribute [local go_sem] run_fl_add run_fl_sub run_fl_mul run_fl_quo run_conv run_store_float run_store_complex
def fI (n : Int) : Option Nat := fv .f32 (floatOfInt .f32 n)
def RetFE (V : Option Nat) (b : Bool) (w : World) (e : Ending) (w' : World) : Prop := ∃ r, e = .returned (.tuple #[.float .f32 r, .bool b]) ∧ fv .f32 r = V ∧ Ext w w'
theorem fv_zero32 : fv .f32 0 = some 0 := by unfold fv; rfl
theorem RetFE.no (w w' : World) (h : Ext w w') : RetFE (some 0) false w (.returned (.tuple #[.float .f32 0, .bool false])) w' := ⟨0, rfl, fv_zero32, h⟩
def chiStep (E : Option Nat) (s : Option Nat) (c : Int) : Option Nat := fop .add .f32 s (fop .quo .f32 (fop .mul .f32 (fop .sub .f32 (fI c) E) (fop .sub .f32 (fI c) E)) E)
def chiS (E : Option Nat) (cs : List Int) : Option Nat := cs.foldl (chiStep E) (some 0)
theorem chiS_step (E : Option Nat) (cs : List Int) (k : Nat) (h : k < cs.length) : chiS E (cs.take (k + 1)) = chiStep E (chiS E (cs.take k)) (cs[k]?.getD 0) := by
  unfold chiS
  rw [List.take_succ_eq_append_getElem h, List.foldl_append]
  simp [h]
def chiB (zs : List Int) (salt n : Int) : Bool := spreadB zs salt n && decide (1 ≤ zs.length)
def chiV (zs : List Int) (salt n : Int) : Option Nat := if chiB zs salt n then chiS (fop .quo .f32 (fI zs.length) (fI n)) (spreadZ zs salt n.toNat) else some 0
theorem chiV_no {zs : List Int} {salt n : Int} (h : chiB zs salt n = false) : chiV zs salt n = some 0 := by unfold chiV; rw [h]; rfl
theorem chiV_yes {zs : List Int} {salt : Int} {m : Nat} (h : chiB zs salt m = true) : chiV zs salt m = chiS (fop .quo .f32 (fI zs.length) (fI m)) (spreadZ zs salt m) := by unfold chiV; rw [h, if_pos rfl]; simp
theorem chiB_1 {zs : List Int} {salt n : Int} (h : spreadB zs salt n = false) : chiB zs salt n = false := by unfold chiB; rw [h]; rfl
theorem chiB_2 {zs : List Int} {salt n : Int} (h : zs.length = 0) : chiB zs salt n = false := by unfold chiB; rw [h]; simp
theorem chiB_mk {zs : List Int} {salt n : Int} (h : spreadB zs salt n = true) (h1 : 1 ≤ zs.length) : chiB zs salt n = true := by unfold chiB; rw [h, decide_eq_true h1]; rfl
theorem spreadB_n {zs : List Int} {salt n : Int} (h : spreadB zs salt n = true) : 1 ≤ n ∧ n ≤ 256 := by
  unfold spreadB at h
  simp only [Bool.and_eq_true] at h
  exact inB_of h.2
theorem spreadB_keys {zs : List Int} {salt n : Int} (h : spreadB zs salt n = true) : keysB zs = true := by
  unfold spreadB at h
  simp only [Bool.and_eq_true] at h
  exact h.1.1
theorem c_impl_SpreadOfKeys_of (a : Option Addr) (n0 cap : Nat) (zs : List Int) (salt n : Int) (w : World) {b : Bool} {rs : List Int} (hb : spreadB zs salt n = b) (hr : spreadV zs salt n = rs) (hm : n0 ≤ maxLen) (h : Reads w a n0 (ints zs)) :
    Calls Try.prog 26 #[.slice a n0 cap, .int .i64 salt, .int .i64 n] w (RetSB 2 rs.length (ints rs) b w) := by
  subst hb; subst hr; exact c_impl_SpreadOfKeys a n0 cap zs salt n w hm h
set_option maxHeartbeats 1000000 in
theorem c_impl_ChiOfKeys (a : Option Addr) (n0 cap : Nat) (zs : List Int) (salt n : Int) (w : World) (hm : n0 ≤ maxLen) (h : Reads w a n0 (ints zs)) :
    Calls Try.prog 31 #[.slice a n0 cap, .int .i64 salt, .int .i64 n] w (RetFE (chiV zs salt n) (chiB zs salt n) w) := by
  have hlen : n0 = zs.length := h.int.1.symm
  have H := Lib.hid h
  cases hb : spreadB zs salt n
  · have HB := Lib.hid hb
    have HR := Lib.hid (spreadV_no hb)
    rw [chiV_no (chiB_1 hb), chiB_1 hb]
    clear hb h hlen
    go_enter Try.func31, Try.ntmps31
    go_wp2_with fail
    refine (c_impl_SpreadOfKeys_of _ _ _ zs salt n _ HB.out HR.out hm H.out).mono ?_; rintro e w1 ⟨a', c', rfl, o', x'⟩
    have HX := Lib.hid x'
    clear o' x'
    go_wp2
    go_ret2
    exact RetFE.no _ _ HX.out
  · have HB := Lib.hid hb
    obtain ⟨n1, n2⟩ := spreadB_n hb
    obtain ⟨m, rfl⟩ := Int.eq_ofNat_of_zero_le (show (0 : Int) ≤ n from by omega)
    obtain ⟨rs, hrs⟩ : ∃ rs, spreadZ zs salt m = rs := ⟨_, rfl⟩
    have HR := Lib.hid (show spreadV zs salt m = rs by rw [spreadV_yes hb, hrs])
    have hrl : rs.length = m := by rw [← hrs, spreadZ_length]
    by_cases h0 : n0 = 0
    · rw [chiV_no (chiB_2 (by omega)), chiB_2 (by omega)]
      subst h0
      clear hb h hlen hrs hrl
      go_enter Try.func31, Try.ntmps31
      go_wp2_with fail
      refine (c_impl_SpreadOfKeys_of _ _ _ zs salt m _ HB.out HR.out hm H.out).mono ?_; rintro e w1 ⟨a', c', rfl, o', x'⟩
      have HX := Lib.hid x'
      clear o' x'
      go_wp2
      go_ret2
      exact RetFE.no _ _ HX.out
    · rw [chiV_yes (chiB_mk hb (by omega)), chiB_mk hb (by omega), hrs, ← hlen]
      have h1' : ¬ (n0 : Int) < 1 := by omega
      have h2' : ¬ (n0 : Int) = 0 := by omega
      have HRL := Lib.hid hrl
      clear hb h hlen hrs hrl h0
      go_enter Try.func31, Try.ntmps31
      go_wp2_with fail
      refine (c_impl_SpreadOfKeys_of _ _ _ zs salt m _ HB.out HR.out hm H.out).mono ?_; rintro e w1 ⟨a', c', rfl, o', x'⟩
      rw [HRL.out] at o' ⊢
      have HX := Lib.hid x'
      have HC := Lib.hid o'.reads.int.2
      clear o' x'
      go_wp2
      go_loopw [11, 37] (fun s i wr => ∃ (k q r : Nat), k ≤ m ∧ i = .int .i64 k ∧ wr = w1.drewN q ∧ s = .float .f32 r ∧ fv .f32 r = chiS (fop .quo .f32 (fI n0) (fI m)) (rs.take k)) (fun _ i _ => m - (intOf i).toNat)
      case atStart => exact ⟨0, _, 0, Nat.zero_le _, rfl, rfl, rfl, fv_zero32⟩
      case round =>
        obtain ⟨k, q, r, hk, rfl, rfl, rfl, hv⟩ := hrel
        have HV := Lib.hid hv
        clear hv
        by_cases hlt : k < m
        · rcases HC.out with h0 | ⟨b, off, rfl, hc⟩
          · omega
          have hcell := hc k hlt
          obtain ⟨x, hx⟩ : ∃ x, rs[k]?.getD 0 = x := ⟨_, rfl⟩
          have HS := Lib.hid (show chiS (fop .quo .f32 (fI n0) (fI m)) (rs.take (k + 1)) = chiStep (fop .quo .f32 (fI n0) (fI m)) (chiS (fop .quo .f32 (fI n0) (fI m)) (rs.take k)) x by rw [chiS_step _ _ _ (by rw [HRL.out]; exact hlt), hx])
          rw [hx] at hcell
          clear hc hx
          go_wp2
          go_roundw
          case rel => exact ⟨k + 1, _, _, by omega, by go_num, rfl, rfl, by rw [HS.out]; simp only [fv_flR, chiStep, fI, HV.out]⟩
          case measure => simp [intOf]; omega
        · obtain rfl : k = m := by omega
          go_wp2
          go_ret2
          exact ⟨_, rfl, by rw [HV.out, List.take_of_length_le (by rw [HRL.out]; exact Nat.le_refl _)], HX.out.trans (Ext.drewN _ _)⟩
theorem c_spec_SpreadOfKeys_of (a : Option Addr) (n0 cap : Nat) (zs : List Int) (salt n : Int) (w : World) {b : Bool} {rs : List Int} (hb : spreadB zs salt n = b) (hr : spreadV zs salt n = rs) (hm : n0 ≤ maxLen) (h : Reads w a n0 (ints zs)) :
    Calls Try.prog 25 #[.slice a n0 cap, .int .i64 salt, .int .i64 n] w (RetSB 2 rs.length (ints rs) b w) := by
  subst hb; subst hr; exact c_spec_SpreadOfKeys a n0 cap zs salt n w hm h
set_option maxHeartbeats 1000000 in
theorem c_spec_ChiOfKeys (a : Option Addr) (n0 cap : Nat) (zs : List Int) (salt n : Int) (w : World) (hm : n0 ≤ maxLen) (h : Reads w a n0 (ints zs)) :
    Calls Try.prog 30 #[.slice a n0 cap, .int .i64 salt, .int .i64 n] w (RetFE (chiV zs salt n) (chiB zs salt n) w) := by
  have hlen : n0 = zs.length := h.int.1.symm
  have H := Lib.hid h
  cases hb : spreadB zs salt n
  · have HB := Lib.hid hb
    have HR := Lib.hid (spreadV_no hb)
    rw [chiV_no (chiB_1 hb), chiB_1 hb]
    clear hb h hlen
    go_enter Try.func30, Try.ntmps30
    go_wp2_with fail
    refine (c_spec_SpreadOfKeys_of _ _ _ zs salt n _ HB.out HR.out hm H.out).mono ?_; rintro e w1 ⟨a', c', rfl, o', x'⟩
    have HX := Lib.hid x'
    clear o' x'
    go_wp2
    go_ret2
    exact RetFE.no _ _ HX.out
  · have HB := Lib.hid hb
    obtain ⟨n1, n2⟩ := spreadB_n hb
    obtain ⟨m, rfl⟩ := Int.eq_ofNat_of_zero_le (show (0 : Int) ≤ n from by omega)
    obtain ⟨rs, hrs⟩ : ∃ rs, spreadZ zs salt m = rs := ⟨_, rfl⟩
    have HR := Lib.hid (show spreadV zs salt m = rs by rw [spreadV_yes hb, hrs])
    have hrl : rs.length = m := by rw [← hrs, spreadZ_length]
    by_cases h0 : n0 = 0
    · rw [chiV_no (chiB_2 (by omega)), chiB_2 (by omega)]
      subst h0
      clear hb h hlen hrs hrl
      go_enter Try.func30, Try.ntmps30
      go_wp2_with fail
      refine (c_spec_SpreadOfKeys_of _ _ _ zs salt m _ HB.out HR.out hm H.out).mono ?_; rintro e w1 ⟨a', c', rfl, o', x'⟩
      have HX := Lib.hid x'
      clear o' x'
      go_wp2
      go_ret2
      exact RetFE.no _ _ HX.out
    · rw [chiV_yes (chiB_mk hb (by omega)), chiB_mk hb (by omega), hrs, ← hlen]
      have h1' : ¬ (n0 : Int) < 1 := by omega
      have h2' : ¬ (n0 : Int) = 0 := by omega
      have HRL := Lib.hid hrl
      clear hb h hlen hrs hrl h0
      go_enter Try.func30, Try.ntmps30
      go_wp2_with fail
      refine (c_spec_SpreadOfKeys_of _ _ _ zs salt m _ HB.out HR.out hm H.out).mono ?_; rintro e w1 ⟨a', c', rfl, o', x'⟩
      rw [HRL.out] at o' ⊢
      have HX := Lib.hid x'
      have HC := Lib.hid o'.reads.int.2
      clear o' x'
      go_wp2
      go_loopw [11, 12] (fun s i wr => ∃ (k q r : Nat), k ≤ m ∧ i = .int .i64 k ∧ wr = w1.drewN q ∧ s = .float .f32 r ∧ fv .f32 r = chiS (fop .quo .f32 (fI n0) (fI m)) (rs.take k)) (fun _ i _ => m - (intOf i).toNat)
      case atStart => exact ⟨0, _, 0, Nat.zero_le _, rfl, rfl, rfl, fv_zero32⟩
      case round =>
        obtain ⟨k, q, r, hk, rfl, rfl, rfl, hv⟩ := hrel
        have HV := Lib.hid hv
        clear hv
        by_cases hlt : k < m
        · rcases HC.out with h0 | ⟨b, off, rfl, hc⟩
          · omega
          have hcell := hc k hlt
          obtain ⟨x, hx⟩ : ∃ x, rs[k]?.getD 0 = x := ⟨_, rfl⟩
          have HS := Lib.hid (show chiS (fop .quo .f32 (fI n0) (fI m)) (rs.take (k + 1)) = chiStep (fop .quo .f32 (fI n0) (fI m)) (chiS (fop .quo .f32 (fI n0) (fI m)) (rs.take k)) x by rw [chiS_step _ _ _ (by rw [HRL.out]; exact hlt), hx])
          rw [hx] at hcell
          clear hc hx
          go_wp2
          go_roundw
          case rel => exact ⟨k + 1, _, _, by omega, by go_num, rfl, rfl, by rw [HS.out]; simp only [fv_flR, chiStep, fI, HV.out]⟩
          case measure => simp [intOf]; omega
        · obtain rfl : k = m := by omega
          go_wp2
          go_ret2
          exact ⟨_, rfl, by rw [HV.out, List.take_of_length_le (by rw [HRL.out]; exact Nat.le_refl _)], HX.out.trans (Ext.drewN _ _)⟩
end Go.Proofs.Ytdbllnmhlfkhbab
