/- SampleSeen: plain facts; what both sides call; the other side. -/
import Derived.Test.YtplngjbllllanaaKey
import Derived.Test.YtplngjbllllanaaLef
import Derived.Test.YtplngjbllllanaaLor
import Derived.Test.YtplngjbllllanaaCis3
import Derived.BigQuiet
namespace Go.Proofs.Ytplngjbllllanaa
open Go.ChangeShapes Go.WideShapes Go.ChangeAt Go.RowKit
set_option linter.unusedVariables false
theorem retB_m {a b : Bool} (h : a = b) : Ending.returned (.bool a) = Ending.returned (.bool b) := by rw [h]
def stB (ks : List Int) : Bool := inB 1 (ks.length : Int) 128 && keysB ks
theorem marks_keys {n : Nat} (h : n ≤ 128) : keysB (marks 0 n) = true := by
  unfold keysB
  rw [marks_length, Bool.and_eq_true, decide_eq_true_eq, List.all_eq_true]
  refine ⟨by omega, fun x hx => ?_⟩
  unfold marks at hx
  obtain ⟨i, hi, rfl⟩ := List.mem_map.1 hx
  rw [List.mem_range] at hi
  unfold keyB
  rw [decide_eq_true_eq]
  omega
def hashF (salt : Int) (i : Nat) : Int := ((hashN (i : Int) salt : Nat) : Int)
def seenZ (ks : List Int) (salt : Int) : List Int := (List.range ks.length).map fun i => getI ks (leastAt (hashF salt) (i + 1))
def seenR (ks : List Int) (salt : Int) : List Int × Bool := if stB ks && keyB salt then (seenZ ks salt, true) else ([], false)
theorem seenZ_length (ks : List Int) (salt : Int) : (seenZ ks salt).length = ks.length := by unfold seenZ; rw [List.length_map, List.length_range]
theorem seenZ_get (ks : List Int) (salt : Int) (i : Nat) (h : i < ks.length) : (seenZ ks salt)[i]?.getD 0 = getI ks (leastAt (hashF salt) (i + 1)) := by
  unfold seenZ; rw [List.getElem?_map, List.getElem?_range h]; rfl
theorem seenR_no {ks : List Int} {salt : Int} (h : (stB ks && keyB salt) = false) : seenR ks salt = ([], false) := by unfold seenR; rw [h]; rfl
theorem seenR_yes {ks : List Int} {salt : Int} (h : (stB ks && keyB salt) = true) : seenR ks salt = (seenZ ks salt, true) := by unfold seenR; rw [h]; rfl
theorem seenR_le {ks : List Int} {salt : Int} {rz : List Int} {rb : Bool} (h : seenR ks salt = (rz, rb)) : rz.length ≤ 1048576 := by
  cases hb : stB ks && keyB salt
  · rw [seenR_no hb] at h; cases h; exact Nat.zero_le _
  · rw [seenR_yes hb] at h; cases h
    rw [seenZ_length]
    rw [Bool.and_eq_true] at hb
    have := hb.1
    unfold stB at this
    rw [Bool.and_eq_true, inB_is] at this
    omega
theorem hashF_row {n : Nat} {salt : Int} {i : Nat} (h : i < n) : getI (rowZ (marks 0 n) salt) i = hashF salt i := by
  unfold getI hashF
  rw [rowZ_get _ _ _ (by rw [marks_length]; exact h), marks_get 0 n i h, Nat.zero_add]
theorem leastAt_bd (f : Nat → Int) (k : Nat) : leastAt f k ≤ k := by
  cases k with
  | zero => exact Nat.le_refl _
  | succ k => have := leastAt_lt f k; omega
theorem leastAt_0 (f : Nat → Int) : leastAt f 0 = 0 := rfl
theorem c_impl_AreKeys_k (a : Option Addr) (n cap : Nat) (zs : List Int) (w : World) {r : Bool} (hr : keysB zs = r) (hm : n ≤ maxLen) (h : Reads w a n (ints zs)) : Calls Try.prog 151 #[.slice a n cap] w fun e w' => e = .returned (.bool r) ∧ w = w' := by
  subst hr; exact c_impl_AreKeys a n cap zs w hm h
theorem c_spec_l02Keys_k (a : Option Addr) (n cap : Nat) (zs : List Int) (w : World) {r : Bool} (hr : keysB zs = r) (hm : n ≤ maxLen) (h : Reads w a n (ints zs)) : Calls Try.prog 149 #[.slice a n cap] w fun e w' => e = .returned (.bool r) ∧ w = w' := by
  subst hr; exact c_spec_l02Keys a n cap zs w hm h
theorem c_impl_isStreamSize_s (n : Int) (w : World) {b : Bool} (h : inB 1 n 128 = b) : Calls Try.prog 143 #[.int .i64 n] w fun e w' => e = .returned (.bool b) ∧ w = w' := by
  unfold inB at h
  by_cases h1 : 1 ≤ n
  · by_cases h2 : n ≤ 128
    · have H := Lib.hid (show b = true by rw [← h]; exact decide_eq_true ⟨h1, h2⟩)
      clear h
      go_enter Try.func143, Try.ntmps143
      go_wp2
      go_ret
      exact ⟨retB_m H.out.symm, rfl⟩
    · have H := Lib.hid (show b = false by rw [← h]; exact decide_eq_false (by omega))
      have h3 : 128 < n := by omega
      clear h
      go_enter Try.func143, Try.ntmps143
      go_wp2
      go_ret
      exact ⟨retB_m H.out.symm, rfl⟩
  · have H := Lib.hid (show b = false by rw [← h]; exact decide_eq_false (by omega))
    have h3 : n < 1 := by omega
    clear h
    go_enter Try.func143, Try.ntmps143
    go_wp2
    go_ret
    exact ⟨retB_m H.out.symm, rfl⟩
theorem c_impl_areStreamKeys (a : Option Addr) (n cap : Nat) (zs : List Int) (w : World) {r : Bool} (hr : stB zs = r) (hm : n ≤ 1048576) (h : Reads w a n (ints zs)) :
    Calls Try.prog 95 #[.slice a n cap] w fun e w' => e = .returned (.bool r) ∧ w = w' := by
  have hz := h.int.1
  have H := Lib.hid h
  have HM := Lib.hid (show n ≤ maxLen by unfold maxLen; omega)
  unfold stB at hr
  rw [hz] at hr
  cases h1 : inB 1 (n : Int) 128
  · rw [h1] at hr; cases hr
    have H1 := Lib.hid h1
    clear h h1 hz
    go_enter Try.func95, Try.ntmps95
    go_wp2_with (go_at_call 143; refine (c_impl_isStreamSize_s _ _ H1.out).mono ?_; rintro e w' ⟨rfl, rfl⟩)
    go_ret
    exact ⟨rfl, rfl⟩
  · rw [h1, Bool.true_and] at hr
    have H1 := Lib.hid h1
    have HR := Lib.hid hr
    clear h h1 hz hr
    go_enter Try.func95, Try.ntmps95
    go_wp2_with (first | (go_at_call 143; refine (c_impl_isStreamSize_s _ _ H1.out).mono ?_; rintro e w' ⟨rfl, rfl⟩) | (go_at_call 151; refine (c_impl_AreKeys_k _ _ _ zs _ HR.out HM.out H.out).mono ?_; rintro e w' ⟨rfl, rfl⟩))
    go_ret
    exact ⟨rfl, rfl⟩
theorem c_spec_l06Keys_s (a : Option Addr) (n cap : Nat) (zs : List Int) (w : World) {r : Bool} (hr : stB zs = r) (hm : n ≤ 1048576) (h : Reads w a n (ints zs)) :
    Calls Try.prog 92 #[.slice a n cap] w fun e w' => e = .returned (.bool r) ∧ w = w' := by
  have hz := h.int.1
  have H := Lib.hid h
  have HM := Lib.hid (show n ≤ maxLen by unfold maxLen; omega)
  unfold stB inB at hr
  rw [hz] at hr
  by_cases h1 : n < 1
  · have HR := Lib.hid (show r = false by rw [← hr, decide_eq_false (by omega)]; rfl)
    have h1' : (n : Int) < 1 := by omega
    clear hr hz h1 h
    go_enter Try.func92, Try.ntmps92
    go_wp2
    go_ret
    exact ⟨retB (by first | (rw [HR.out]; done) | (rw [HR.out]; rfl) | (rw [HR.out]; simp; done) | (rw [HR.out]; simp; omega)), rfl⟩
  have h1' : (1 : Int) ≤ (n : Int) := by omega
  by_cases h2 : 128 < n
  · have HR := Lib.hid (show r = false by rw [← hr, decide_eq_false (by omega)]; rfl)
    have h2' : (128 : Int) < (n : Int) := by omega
    clear hr hz h1 h2 h
    go_enter Try.func92, Try.ntmps92
    go_wp2
    go_ret
    exact ⟨retB (by first | (rw [HR.out]; done) | (rw [HR.out]; rfl) | (rw [HR.out]; simp; done) | (rw [HR.out]; simp; omega)), rfl⟩
  have h2' : (n : Int) ≤ 128 := by omega
  have HR := Lib.hid (show keysB zs = r by rw [← hr, decide_eq_true (⟨h1', h2'⟩ : (1 : Int) ≤ (n : Int) ∧ (n : Int) ≤ 128)]; rfl)
  clear hr hz h1 h2 h
  go_enter Try.func92, Try.ntmps92
  go_wp2_with (go_at_call 149; refine (c_spec_l02Keys_k _ _ _ zs _ HR.out HM.out H.out).mono ?_; rintro e w' ⟨rfl, rfl⟩)
  go_ret
  exact ⟨rfl, rfl⟩
theorem c_impl_indicesBelow (n : Nat) (w : World) (hn : n ≤ 1000) : Calls Try.prog 98 #[.int .i64 n] w (RetS 2 n (ints (marks 0 n)) w) := by
  have hmk := run_make_row' (P := Try.prog) 40 2 (.int .i64 0) 8 Try.underlying40 info_i64 rfl .i64 .i64 n (by omega) (by omega)
  have hnI : (n : Int) ≤ 1000 := by omega
  go_enter Try.func98, Try.ntmps98
  go_wp2
  go_loopw [9] (fun i wr => ∃ k : Nat, k ≤ n ∧ i = .int .i64 k ∧ wr.rowIs w.heap.size 2 n (fillF (marks 0 n) k) ∧ Ext w wr) (fun i _ => n - (intOf i).toNat)
  case atStart => exact ⟨0, Nat.zero_le _, rfl, (World.rowIs_made _ _ _ _).congr fun i _ => rfl, Ext.alloc _ _⟩
  case round =>
    obtain ⟨k, hk, rfl, hrow, hext⟩ := hrel
    by_cases hlt : k < n
    · have hltI : (k : Int) < (n : Int) := by omega
      have hcur := hrow.cell hlt
      have hfro := hrow.frozen k
      have hst := fillF_step (marks 0 n) k hrow
      rw [show (marks 0 n)[k]?.getD 0 = (k : Int) by rw [marks_get 0 n k hlt, Nat.zero_add]] at hst
      have HS := Lib.hid hst
      have HE := Lib.hid (show Ext w (wr.setCell ⟨w.heap.size, k, none⟩ (.int .i64 (k : Int))) from Below.setCell hext (Nat.le_refl _) _)
      clear hrow hext hst
      go_wp2
      go_roundw
      case rel => exact ⟨k + 1, by omega, by go_num, HS.out, HE.out⟩
      case measure => simp [intOf]; omega
    · obtain rfl : k = n := by omega
      have HS := Lib.hid hrow
      have HE := Lib.hid hext
      clear hrow hext
      go_wp2
      go_ret
      exact ⟨_, _, rfl, own_made (by rw [ints_length, marks_length]) (Nat.le_refl _) HS.out (fun i hi => by rw [ints_get _ i (by rw [marks_length]; exact hi)]; unfold fillF; rw [if_pos hi]), HE.out⟩
set_option maxRecDepth 100000 in
set_option maxHeartbeats 2000000 in
theorem c_spec_SampleSeen (a : Option Addr) (n cap : Nat) (zs : List Int) (salt : Int) (w : World) {rz : List Int} {rb : Bool} (hv : seenR zs salt = (rz, rb)) (hm : n ≤ 1048576) (h : Reads w a n (ints zs)) :
    Calls Try.prog 42 #[.slice a n cap, .int .i64 salt] w (RetSB 2 rz.length (ints rz) rb w) := by
  have hz := h.int.1
  have H := Lib.hid h
  have HM := Lib.hid hm
  cases hk : stB zs
  · rw [seenR_no (by rw [hk]; rfl)] at hv
    cases hv
    have HK := Lib.hid hk
    clear hk h hm
    go_enter Try.func42, Try.ntmps42
    go_wp2_with (go_at_call 92; refine (c_spec_l06Keys_s _ _ _ zs _ HK.out HM.out H.out).mono ?_; rintro e w' ⟨rfl, rfl⟩)
    go_ret2
    exact RetSB.nil _ _
  cases hs : keyB salt
  · rw [seenR_no (by rw [hk, hs]; rfl)] at hv
    cases hv
    have HK := Lib.hid hk
    have HS := Lib.hid hs
    clear hk hs h hm
    go_enter Try.func42, Try.ntmps42
    go_wp2_with (first | (go_at_call 92; refine (c_spec_l06Keys_s _ _ _ zs _ HK.out HM.out H.out).mono ?_; rintro e w' ⟨rfl, rfl⟩) | (go_at_call 93; refine (c_spec_l02Key_at salt _ HS.out).mono ?_; rintro e w' ⟨rfl, rfl⟩))
    go_ret2
    exact RetSB.nil _ _
  · rw [seenR_yes (by rw [hk, hs]; rfl)] at hv
    cases hv
    have hst : 1 ≤ n ∧ n ≤ 128 := by
      unfold stB at hk
      rw [Bool.and_eq_true, inB_is, hz] at hk
      omega
    have hn1 := hst.1
    have hn2 := hst.2
    have hnI : (n : Int) ≤ 128 := by omega
    rcases h.int.2 with h0 | ⟨b, off, rfl, hc⟩
    · omega
    have HC := Lib.hid hc
    have HK := Lib.hid hk
    have HS := Lib.hid hs
    have HZ := Lib.hid hz
    have HSL := Lib.hid (show (seenZ zs salt).length = n by rw [seenZ_length]; exact hz)
    obtain ⟨i0, hi, hz0, hz1, hz2⟩ := info_parts info_i64
    clear hk hs hst h hm hz hc
    go_enter Try.func42, Try.ntmps42
    go_wp2_with (first | (go_at_call 92; refine (c_spec_l06Keys_s _ _ _ zs _ HK.out HM.out H.out).mono ?_; rintro e w' ⟨rfl, rfl⟩) | (go_at_call 93; refine (c_spec_l02Key_at salt _ HS.out).mono ?_; rintro e w' ⟨rfl, rfl⟩))
    go_loopw [6, 7, 8] (fun bb v i wr => ∃ k : Nat, k ≤ n ∧ i = .int .i64 k ∧ bb = .int .i64 (leastAt (hashF salt) k : Nat) ∧ wr.ownsRow w.heap.size 2 1 v k (ints ((seenZ zs salt).take k)) ∧ Ext w wr) (fun _ _ i _ => n - (intOf i).toNat)
    case atStart => exact ⟨0, Nat.zero_le _, rfl, rfl, World.ownsRow_made _ _ _ (Nat.le_refl _) (Nat.zero_le _) rfl, Ext.alloc _ _⟩
    case round =>
      obtain ⟨k, hk, rfl, rfl, hown, hext⟩ := hrel
      have HO := Lib.hid hown
      have HE := Lib.hid hext
      clear hown hext
      by_cases hlt : k < n
      · have hltI : (k : Int) < (n : Int) := by omega
        obtain ⟨m, hm⟩ : ∃ m, leastAt (hashF salt) k = m := ⟨_, rfl⟩
        have hmk : m ≤ k := by rw [← hm]; exact leastAt_bd _ _
        have HT := Lib.hid (ints_snoc (seenZ zs salt) k (by rw [HSL.out]; exact hlt))
        have HGT := Lib.hid (seenZ_get zs salt k (by rw [HZ.out]; exact hlt))
        have HH := Lib.hid (show ∀ (i : Nat) (wx : World), i < 200 → Calls Try.prog 94 #[.int .i64 (i : Int), .int .i64 salt] wx fun e w' => e = .returned (.int .i64 (hashF salt i)) ∧ wx = w' from fun i wx hi9 => c_spec_l02Hash (i : Int) salt wx (by unfold keyB; rw [decide_eq_true_eq]; omega) HS.out)
        have hk200 : k < 200 := by omega
        have hm200 : m < 200 := by omega
        rw [hm]
        have HY := Lib.hid (show hashF salt k < hashF salt m → leastAt (hashF salt) (k + 1) = k from fun hlt' => leastAt_yes (by rw [hm]; exact hlt'))
        have HN := Lib.hid (show ¬ hashF salt k < hashF salt m → leastAt (hashF salt) (k + 1) = m from fun hlt' => by rw [leastAt_no (by rw [hm]; exact hlt'), hm])
        have hmI : (m : Int) < (n : Int) := by omega
        have hm0 : (0 : Int) ≤ (m : Int) := by omega
        by_cases hlt2 : hashF salt k < hashF salt m
        · have HL := Lib.hid (HY.out hlt2)
          obtain ⟨y, hy⟩ : ∃ y, getI zs k = y := ⟨_, rfl⟩
          have hck := HE.out.some (HC.out k hlt)
          rw [show zs[k]?.getD 0 = y from hy] at hck
          have HYV := Lib.hid (show (seenZ zs salt)[k]?.getD 0 = y by rw [HGT.out, HL.out]; exact hy)
          clear hm hy
          go_wp2_with (first | (go_at_call 94; refine (HH.out _ _ (by assumption)).mono ?_; rintro e w' ⟨rfl, rfl⟩) | (at_builtin; refine wpList_append_own _ rfl _ _ 40 rfl w.heap.size 2 i0 (.int .i64 0) 1 8 Try.underlying40 hi hz0 hz1 hz2 rfl (by decide) _ _ _ rfl (HO.out.alloc _) ⟨_, 0, none⟩ 1 1 [.int .i64 y] rfl rfl (one_cell_at _ _ _) (by intro u hu; simp at hu; subst hu; rfl) (by unfold maxLen; omega) (by omega) (by have := HE.out.size; first | (simp; omega) | omega) ?_; intro v' w1 hown' hgrow _; have HO' := Lib.hid hown'; have HE' := Lib.hid (app_step HE.out HO.out hgrow); clear hown' hgrow))
          go_roundw
          case rel => exact ⟨k + 1, by omega, by go_num, by rw [HL.out], by rw [HT.out, HYV.out]; exact HO'.out, HE'.out⟩
          case measure => simp [intOf]; omega
        · have HL := Lib.hid (HN.out hlt2)
          obtain ⟨y, hy⟩ : ∃ y, getI zs m = y := ⟨_, rfl⟩
          have hck := HE.out.some (HC.out m (by omega))
          rw [show zs[m]?.getD 0 = y from hy] at hck
          have HYV := Lib.hid (show (seenZ zs salt)[k]?.getD 0 = y by rw [HGT.out, HL.out]; exact hy)
          clear hm hy
          go_wp2_with (first | (go_at_call 94; refine (HH.out _ _ (by assumption)).mono ?_; rintro e w' ⟨rfl, rfl⟩) | (at_builtin; refine wpList_append_own _ rfl _ _ 40 rfl w.heap.size 2 i0 (.int .i64 0) 1 8 Try.underlying40 hi hz0 hz1 hz2 rfl (by decide) _ _ _ rfl (HO.out.alloc _) ⟨_, 0, none⟩ 1 1 [.int .i64 y] rfl rfl (one_cell_at _ _ _) (by intro u hu; simp at hu; subst hu; rfl) (by unfold maxLen; omega) (by omega) (by have := HE.out.size; first | (simp; omega) | omega) ?_; intro v' w1 hown' hgrow _; have HO' := Lib.hid hown'; have HE' := Lib.hid (app_step HE.out HO.out hgrow); clear hown' hgrow))
          go_roundw
          case rel => exact ⟨k + 1, by omega, by go_num, by rw [HL.out], by rw [HT.out, HYV.out]; exact HO'.out, HE'.out⟩
          case measure => simp [intOf]; omega
      · have hkl : k = n := by omega
        subst hkl
        have hlt' : ¬ (k : Int) < (k : Int) := by omega
        obtain ⟨a1, c1, hv1, ho⟩ := Own.of_row (e := 0) HO.out
        subst hv1
        rw [List.take_of_length_le (by rw [HSL.out]; exact Nat.le_refl _)] at ho
        have O1 := Lib.hid ho
        clear ho
        go_wp2
        go_ret2
        exact ⟨a1, c1, by first | (rw [HSL.out]; done) | (rw [HSL.out]; rfl), by rw [HSL.out]; exact O1.out, HE.out⟩
end Go.Proofs.Ytplngjbllllanaa
