/- SampleStream: both sides. -/
import Derived.Test.YtjnhflpoddpfnabL6s
import Derived.Test.YtjnhflpoddpfnabCol
import Derived.Test.YtjnhflpoddpfnabObi
namespace Go.Proofs.Ytjnhflpoddpfnab
open Go.ChangeShapes Go.WideShapes Go.ChangeAt Go.RowKit
set_option linter.unusedVariables false
def stB (ks : List Int) : Bool := inB 1 (ks.length : Int) 128 && keysB ks
def ssR (ks : List Int) (room salt : Int) : List Int × Bool := if stB ks && (inB 1 room 128 && keyB salt) then (sortZ ((ordR (marks 0 ks.length) salt).take room.toNat), true) else ([], false)
theorem ssR_no {ks : List Int} {room salt : Int} (h : (stB ks && (inB 1 room 128 && keyB salt)) = false) : ssR ks room salt = ([], false) := by unfold ssR; rw [h]; rfl
theorem ssR_yes {ks : List Int} {room salt : Int} (h : (stB ks && (inB 1 room 128 && keyB salt)) = true) : ssR ks room salt = (sortZ ((ordR (marks 0 ks.length) salt).take room.toNat), true) := by unfold ssR; rw [h]; rfl
theorem ssR_le {ks : List Int} {room salt : Int} {rz : List Int} {rb : Bool} (h : ssR ks room salt = (rz, rb)) : rz.length ≤ 1048576 := by
  cases hb : stB ks && (inB 1 room 128 && keyB salt)
  · rw [ssR_no hb] at h; cases h; exact Nat.zero_le _
  · rw [ssR_yes hb] at h; cases h
    rw [sortZ_length, List.length_take]
    have := ordR_le (marks 0 ks.length) salt
    omega
theorem marks_keys {n : Nat} (h : n ≤ 128) : keysB (marks 0 n) = true := by
  unfold keysB
  rw [marks_length, Bool.and_eq_true, decide_eq_true_eq, List.all_eq_true]
  refine ⟨by omega, fun x hx => ?_⟩
  unfold marks at hx
  obtain ⟨i, hi, rfl⟩ := List.mem_map.1 hx
  rw [List.mem_range] at hi
  unfold keyB
  rw [decide_eq_true_eq]
  omega
theorem ordR_len {n : Nat} {salt : Int} (h : n ≤ 128) (hs : keyB salt = true) : (ordR (marks 0 n) salt).length = n := by
  rw [ordR_yes (by rw [marks_keys h, hs]; rfl), ordZ_length, rowZ_length, marks_length]
theorem c_impl_isStreamSize_s (n : Int) (w : World) {b : Bool} (h : inB 1 n 128 = b) : Calls Try.prog 57 #[.int .i64 n] w fun e w' => e = .returned (.bool b) ∧ w = w' := by
  unfold inB at h
  by_cases h1 : 1 ≤ n
  · by_cases h2 : n ≤ 128
    · have H := Lib.hid (show b = true by rw [← h]; exact decide_eq_true ⟨h1, h2⟩)
      clear h
      go_enter Try.func57, Try.ntmps57
      go_wp2
      go_ret
      exact ⟨retB_ H.out.symm, rfl⟩
    · have H := Lib.hid (show b = false by rw [← h]; exact decide_eq_false (by omega))
      have h3 : 128 < n := by omega
      clear h
      go_enter Try.func57, Try.ntmps57
      go_wp2
      go_ret
      exact ⟨retB_ H.out.symm, rfl⟩
  · have H := Lib.hid (show b = false by rw [← h]; exact decide_eq_false (by omega))
    have h3 : n < 1 := by omega
    clear h
    go_enter Try.func57, Try.ntmps57
    go_wp2
    go_ret
    exact ⟨retB_ H.out.symm, rfl⟩
theorem c_impl_areStreamKeys (a : Option Addr) (n cap : Nat) (zs : List Int) (w : World) {r : Bool} (hr : stB zs = r) (hm : n ≤ 1048576) (h : Reads w a n (ints zs)) :
    Calls Try.prog 65 #[.slice a n cap] w fun e w' => e = .returned (.bool r) ∧ w = w' := by
  have hz := h.int.1
  have H := Lib.hid h
  have HM := Lib.hid (show n ≤ maxLen by unfold maxLen; omega)
  unfold stB at hr
  rw [hz] at hr
  cases h1 : inB 1 (n : Int) 128
  · rw [h1] at hr; cases hr
    have H1 := Lib.hid h1
    clear h h1 hz
    go_enter Try.func65, Try.ntmps65
    go_wp2_with (go_at_call 57; refine (c_impl_isStreamSize_s _ _ H1.out).mono ?_; rintro e w' ⟨rfl, rfl⟩)
    go_ret
    exact ⟨rfl, rfl⟩
  · rw [h1, Bool.true_and] at hr
    have H1 := Lib.hid h1
    have HR := Lib.hid hr
    clear h h1 hz hr
    go_enter Try.func65, Try.ntmps65
    go_wp2_with (first | (go_at_call 57; refine (c_impl_isStreamSize_s _ _ H1.out).mono ?_; rintro e w' ⟨rfl, rfl⟩) | (go_at_call 80; refine (c_impl_AreKeys_k _ _ _ zs _ HR.out HM.out H.out).mono ?_; rintro e w' ⟨rfl, rfl⟩))
    go_ret
    exact ⟨rfl, rfl⟩
theorem c_spec_l06Keys_s (a : Option Addr) (n cap : Nat) (zs : List Int) (w : World) {r : Bool} (hr : stB zs = r) (hm : n ≤ 1048576) (h : Reads w a n (ints zs)) :
    Calls Try.prog 62 #[.slice a n cap] w fun e w' => e = .returned (.bool r) ∧ w = w' := by
  have hz := h.int.1
  have H := Lib.hid h
  have HM := Lib.hid (show n ≤ maxLen by unfold maxLen; omega)
  unfold stB inB at hr
  rw [hz] at hr
  by_cases h1 : n < 1
  · have HR := Lib.hid (show r = false by rw [← hr, decide_eq_false (by omega)]; rfl)
    have h1' : (n : Int) < 1 := by omega
    clear hr hz h1 h
    go_enter Try.func62, Try.ntmps62
    go_wp2
    go_ret
    exact ⟨retB (by first | (rw [HR.out]; done) | (rw [HR.out]; rfl) | (rw [HR.out]; simp; done) | (rw [HR.out]; simp; omega)), rfl⟩
  have h1' : (1 : Int) ≤ (n : Int) := by omega
  by_cases h2 : 128 < n
  · have HR := Lib.hid (show r = false by rw [← hr, decide_eq_false (by omega)]; rfl)
    have h2' : (128 : Int) < (n : Int) := by omega
    clear hr hz h1 h2 h
    go_enter Try.func62, Try.ntmps62
    go_wp2
    go_ret
    exact ⟨retB (by first | (rw [HR.out]; done) | (rw [HR.out]; rfl) | (rw [HR.out]; simp; done) | (rw [HR.out]; simp; omega)), rfl⟩
  have h2' : (n : Int) ≤ 128 := by omega
  have HR := Lib.hid (show keysB zs = r by rw [← hr, decide_eq_true (⟨h1', h2'⟩ : (1 : Int) ≤ (n : Int) ∧ (n : Int) ≤ 128)]; rfl)
  clear hr hz h1 h2 h
  go_enter Try.func62, Try.ntmps62
  go_wp2_with (go_at_call 76; refine (c_spec_l02Keys_k _ _ _ zs _ HR.out HM.out H.out).mono ?_; rintro e w' ⟨rfl, rfl⟩)
  go_ret
  exact ⟨rfl, rfl⟩
theorem c_spec_l06Room (room : Int) (w : World) {r : Bool} (h : inB 1 room 128 = r) : Calls Try.prog 72 #[.int .i64 room] w fun e w' => e = .returned (.bool r) ∧ w = w' := by
  have H := Lib.hid h
  clear h
  go_enter Try.func72, Try.ntmps72
  go_wp2_with (go_at_call 54; refine (c_l00In_k _ _ _ _ H.out).mono ?_; rintro e w' ⟨rfl, rfl⟩)
  go_ret
  exact ⟨rfl, rfl⟩
theorem c_impl_indicesBelow (n : Nat) (w : World) (hn : n ≤ 1000) : Calls Try.prog 68 #[.int .i64 n] w (RetS 2 n (ints (marks 0 n)) w) := by
  have hmk := run_make_row' (P := Try.prog) 22 2 (.int .i64 0) 8 Try.underlying22 info_i64 rfl .i64 .i64 n (by omega) (by omega)
  have hnI : (n : Int) ≤ 1000 := by omega
  go_enter Try.func68, Try.ntmps68
  go_wp2
  go_loopw [9] (fun i wr => ∃ k : Nat, k ≤ n ∧ i = .int .i64 k ∧ wr.rowIs w.heap.size 2 n (fillF (marks 0 n) k) ∧ Ext w wr) (fun i _ => n - (intOf i).toNat)
  case atStart => exact ⟨0, Nat.zero_le _, rfl, (World.rowIs_made _ _ _ _).congr fun i _ => rfl, Ext.alloc _ _⟩
  case round =>
    obtain ⟨k, hk, rfl, hrow, hext⟩ := hrel
    by_cases hlt : k < n
    · have hltI : (k : Int) < (n : Int) := by omega
      have hcur := hrow.cell hlt
      have hfro := hrow.frozen k
      have hst := fillF_step (marks 0 n) k hrow
      rw [show (marks 0 n)[k]?.getD 0 = (k : Int) by rw [marks_get 0 n k hlt, Nat.zero_add]] at hst
      have HS := Lib.hid hst
      have HE := Lib.hid (show Ext w (wr.setCell ⟨w.heap.size, k, none⟩ (.int .i64 (k : Int))) from Below.setCell hext (Nat.le_refl _) _)
      clear hrow hext hst
      go_wp2
      go_roundw
      case rel => exact ⟨k + 1, by omega, by go_num, HS.out, HE.out⟩
      case measure => simp [intOf]; omega
    · obtain rfl : k = n := by omega
      have HS := Lib.hid hrow
      have HE := Lib.hid hext
      clear hrow hext
      go_wp2
      go_ret
      exact ⟨_, _, rfl, own_made (by rw [ints_length, marks_length]) (Nat.le_refl _) HS.out (fun i hi => by rw [ints_get _ i (by rw [marks_length]; exact hi)]; unfold fillF; rw [if_pos hi]), HE.out⟩
set_option maxHeartbeats 1000000 in
theorem c_impl_firstOf (lo hi : Nat) (a : Option Addr) (n cap : Nat) (zs : List Int) (room : Int) (w : World) (hn : n ≤ 1048576) (r1 : 1 ≤ room) (r2 : room ≤ 128) (h : Own 2 w lo hi a n cap (ints zs)) :
    Calls Try.prog 75 #[.slice a n cap, .int .i64 room] w fun e w' => e = .returned (.slice a (sortZ (zs.take room.toNat)).length cap) ∧ Own 2 w' lo hi a (sortZ (zs.take room.toNat)).length cap (ints (sortZ (zs.take room.toNat))) ∧ Touch lo hi w w' := by
  have hl := h.1
  rw [ints_length] at hl
  subst hl
  have hcap := h.2.1
  obtain ⟨q, hq⟩ : ∃ q : Nat, room.toNat = q := ⟨_, rfl⟩
  obtain ⟨k, hk⟩ : ∃ k : Nat, min zs.length q = k := ⟨_, rfl⟩
  rw [hq]
  have hlen : (sortZ (zs.take q)).length = k := by rw [sortZ_length, List.length_take]; omega
  rw [hlen]
  have htk : zs.take q = zs.take k := by
    rcases Nat.le_total q zs.length with h1 | h1
    · rw [show k = q by omega]
    · rw [List.take_of_length_le (by omega), List.take_of_length_le (by omega)]
  rw [htk]
  have hkm : min (zs.length : Int) room = (k : Int) := by omega
  have hkif : (if (zs.length : Int) < room then (zs.length : Int) else room) = (k : Int) := by omega
  have hkif2 : (if room < (zs.length : Int) then room else (zs.length : Int)) = (k : Int) := by omega
  have k0 : (0 : Int) ≤ (k : Int) := by omega
  have k1 : k ≤ zs.length := by omega
  have k2 : k ≤ cap := by omega
  have HO := Lib.hid (h.cut k1)
  have HN := Lib.hid (show k ≤ 1048576 by omega)
  clear h hn hq hk hlen htk
  go_enter Try.func75, Try.ntmps75
  go_wp2_with fail
  refine (c_Sort lo hi _ _ _ (zs.take k) _ HN.out HO.out).mono ?_; rintro e w1 ⟨rfl, o1, t1⟩
  have O1 := Lib.hid o1
  have T1 := Lib.hid t1
  clear o1 t1
  go_wp2
  go_ret
  exact ⟨rfl, O1.out, T1.out⟩
theorem c_spec_l00Min_s (x y z : Int) (w : World) (h : min x y = z) : Calls Try.prog 44 #[.int .i64 x, .int .i64 y] w fun e w' => e = .returned (.int .i64 z) ∧ w' = w := by
  by_cases hl : x < y
  · have H := Lib.hid (show x = z by omega)
    clear h
    go_enter Try.func44, Try.ntmps44
    go_wp2
    go_ret
    exact ⟨by rw [← H.out]; rfl, rfl⟩
  · have H := Lib.hid (show y = z by omega)
    clear h
    go_enter Try.func44, Try.ntmps44
    go_wp2
    go_ret
    exact ⟨by rw [← H.out]; rfl, rfl⟩
end Go.Proofs.Ytjnhflpoddpfnab
