/- AreKeys, HashRow: what both sides answer. -/
import Derived.Test.YtfbapbgiegploaaHas
import Derived.Test.YtfbapbgiegploaaIls
namespace Go.Proofs.Ytfbapbgiegploaa
open Go.ChangeShapes Go.WideShapes Go.ChangeAt Go.RowKit
set_option linter.unusedVariables false

/-- a list of keys -/
def keysB (zs : List Int) : Bool := decide (zs.length ≤ 256) && zs.all keyB
theorem keysB_long {zs : List Int} (h : 256 < zs.length) : keysB zs = false := by unfold keysB; rw [decide_eq_false (by omega)]; rfl
theorem keysB_short {zs : List Int} (h : zs.length ≤ 256) : keysB zs = zs.all keyB := by unfold keysB; rw [decide_eq_true h]; rfl
theorem keysB_bad {zs : List Int} {k : Nat} (hk : k < zs.length) (h : keyB (zs[k]?.getD 0) = false) : keysB zs = false := by
  unfold keysB
  have : zs.all keyB = false := by
    rw [List.all_eq_false]
    exact ⟨zs[k], List.getElem_mem hk, by rw [List.getElem?_eq_getElem hk] at h; simpa using h⟩
  rw [this, Bool.and_false]
theorem keys_step {zs : List Int} {k : Nat} (hk : k < zs.length) (ha : (zs.take k).all keyB = true) (h : keyB (zs[k]?.getD 0) = true) : (zs.take (k + 1)).all keyB = true := by
  rw [List.take_succ_eq_append_getElem hk, List.all_append, ha]
  rw [List.getElem?_eq_getElem hk] at h
  simpa using h
theorem keys_end {zs : List Int} (ha : (zs.take zs.length).all keyB = true) (h : zs.length ≤ 256) : keysB zs = true := by
  rw [List.take_length] at ha
  rw [keysB_short h, ha]
theorem keysB_at {zs : List Int} (h : keysB zs = true) {k : Nat} (hk : k < zs.length) : keyB (zs[k]?.getD 0) = true := by
  unfold keysB at h
  simp only [Bool.and_eq_true, List.all_eq_true] at h
  rw [List.getElem?_eq_getElem hk]
  exact h.2 _ (List.getElem_mem hk)
theorem keysB_len {zs : List Int} (h : keysB zs = true) : zs.length ≤ 256 := by
  unfold keysB at h
  simp only [Bool.and_eq_true, decide_eq_true_eq] at h
  exact h.1
theorem c_impl_IsKey_at (k : Int) (w : World) {b : Bool} (h : keyB k = b) : Calls Try.prog 126 #[.int .i64 k] w fun e w' => e = .returned (.bool b) ∧ w = w' := by
  subst h; exact c_impl_IsKey k w
theorem c_impl_AreKeys (a : Option Addr) (n cap : Nat) (zs : List Int) (w : World) (hm : n ≤ maxLen) (h : Reads w a n (ints zs)) :
    Calls Try.prog 118 #[.slice a n cap] w fun e w' => e = .returned (.bool (keysB zs)) ∧ w = w' := by
  unfold maxLen at hm
  obtain ⟨rfl, hr⟩ := h.int
  have HR := Lib.hid hr
  clear hr h
  by_cases hl : 256 < zs.length
  · have HB := Lib.hid (keysB_long hl)
    have hl' : (256 : Int) < (zs.length : Int) := by omega
    clear hl
    go_enter Try.func118, Try.ntmps118
    go_wp2
    go_ret
    exact ⟨by first | (rw [HB.out]; rfl) | exact nbool (by rw [HB.out]; first | rfl | exact decide_eq_false (by omega) | exact decide_eq_true (by omega)), rfl⟩
  · have hl' : (zs.length : Int) ≤ 256 := by omega
    clear hl
    go_enter Try.func118, Try.ntmps118
    go_wp2
    go_loopw [10] (fun i wr => ∃ k : Nat, k ≤ zs.length ∧ i = .int .i64 k ∧ wr = w ∧ (zs.take k).all keyB = true) (fun i _ => zs.length - (intOf i).toNat)
    case atStart => exact ⟨0, Nat.zero_le _, rfl, rfl, rfl⟩
    case round =>
      obtain ⟨k, hk, rfl, rfl, ha⟩ := hrel
      have HA := Lib.hid ha; clear ha
      by_cases hlt : k < zs.length
      · rcases HR.out with h0 | ⟨b, off, rfl, hc⟩
        · omega
        have hcell := hc k hlt
        clear hc
        obtain ⟨x, hx⟩ : ∃ x, zs[k]?.getD 0 = x := ⟨_, rfl⟩
        rw [hx] at hcell
        cases hb : keyB x
        · have HB := Lib.hid (keysB_bad hlt (by rw [hx]; exact hb))
          have HX := Lib.hid hb
          clear hb hx
          go_wp2_with (go_at_call 126; refine (c_impl_IsKey_at x _ HX.out).mono ?_; rintro e w' ⟨rfl, rfl⟩)
          go_ret
          exact ⟨by first | (rw [HB.out]; rfl) | exact nbool (by rw [HB.out]; first | rfl | exact decide_eq_false (by omega) | exact decide_eq_true (by omega)), rfl⟩
        · have HN := Lib.hid (keys_step hlt HA.out (by rw [hx]; exact hb))
          have HX := Lib.hid hb
          clear hb hx
          go_wp2_with (go_at_call 126; refine (c_impl_IsKey_at x _ HX.out).mono ?_; rintro e w' ⟨rfl, rfl⟩)
          go_roundw
          case rel => exact ⟨k + 1, by omega, by go_num, by first | rfl | trivial, HN.out⟩
          case measure => simp [intOf]; omega
      · have HN := Lib.hid (keys_end (by rw [← (show k = zs.length by omega)]; exact HA.out) (by omega))
        go_wp2
        go_ret
        exact ⟨by first | (rw [HN.out]; rfl) | exact nbool (by rw [HN.out]; first | rfl | exact decide_eq_false (by omega) | exact decide_eq_true (by omega)), rfl⟩
/-- the hashes of keys -/
def rowZ (zs : List Int) (salt : Int) : List Int := zs.map fun k => ((hashN k salt : Nat) : Int)
theorem rowZ_length (zs : List Int) (salt : Int) : (rowZ zs salt).length = zs.length := List.length_map _
theorem rowZ_get (zs : List Int) (salt : Int) (k : Nat) (h : k < zs.length) : (rowZ zs salt)[k]?.getD 0 = ((hashN (zs[k]?.getD 0) salt : Nat) : Int) := by simp [rowZ, h]
/-- hashKeys: a new row -/
theorem c_impl_hashKeys (a : Option Addr) (n cap : Nat) (zs : List Int) (salt : Int) (w : World) (hk : keysB zs = true) (hs : keyB salt = true) (h : Reads w a n (ints zs)) :
    Calls Try.prog 153 #[.slice a n cap, .int .i64 salt] w (RetS 2 zs.length (ints (rowZ zs salt)) w) := by
  have hn := keysB_len hk
  obtain ⟨rfl, hr⟩ := h.int
  have hmk := run_make_row' (P := Try.prog) 25 2 (.int .i64 0) 8 Try.underlying25 info_i64 rfl .i64 .i64 zs.length (by omega) (by omega)
  have HR := Lib.hid hr
  have HK := Lib.hid hk
  have HS := Lib.hid hs
  clear hr h hk hs
  go_enter Try.func153, Try.ntmps153
  go_wp2
  go_loopw [13] (fun i wr => ∃ k : Nat, k ≤ zs.length ∧ i = .int .i64 k ∧ wr.rowIs w.heap.size 2 zs.length (fillF (rowZ zs salt) k) ∧ Ext w wr) (fun i _ => zs.length - (intOf i).toNat)
  case atStart => exact ⟨0, Nat.zero_le _, rfl, (World.rowIs_made _ _ _ _).congr fun i _ => rfl, Ext.alloc _ _⟩
  case round =>
    obtain ⟨k, hk, rfl, hrow, hext⟩ := hrel
    by_cases hlt : k < zs.length
    · rcases HR.out with h0 | ⟨b, off, rfl, hc⟩
      · omega
      have hcell : wr.cell? ⟨b, off + k, none⟩ = some (.int .i64 (zs[k]?.getD 0)) := by
        have h1 := hc k hlt
        rw [hext.cell b _ (World.block_lt_of_cell? w ⟨b, off + k, none⟩ h1)]; exact h1
      have hcur := hrow.cell hlt
      have hfro := hrow.frozen k
      obtain ⟨x, hx⟩ : ∃ x, zs[k]?.getD 0 = x := ⟨_, rfl⟩
      have HKK := Lib.hid (show keyB x = true by rw [← hx]; exact keysB_at HK.out hlt)
      have HF := Lib.hid (fillF_step (rowZ zs salt) k hrow)
      have HE := Lib.hid (show Ext w (wr.setCell ⟨w.heap.size, k, none⟩ (.int .i64 ((rowZ zs salt)[k]?.getD 0))) from Below.setCell hext (Nat.le_refl _) _)
      have HG := Lib.hid (show (rowZ zs salt)[k]?.getD 0 = ((hashN x salt : Nat) : Int) by rw [← hx]; exact rowZ_get zs salt k hlt)
      rw [hx] at hcell
      clear hc hrow hext hx
      go_wp2_with (go_at_call 147; refine (c_impl_hashKey x salt _ HKK.out HS.out).mono ?_; rintro e w' ⟨rfl, rfl⟩)
      go_roundw
      case rel => exact ⟨k + 1, by omega, by go_num, by rw [← HG.out]; exact HF.out, by rw [← HG.out]; exact HE.out⟩
      case measure => simp [intOf]; omega
    · have hkl : k = zs.length := by omega
      subst hkl
      have HF := Lib.hid hrow
      have HE := Lib.hid hext
      clear hrow hext
      go_wp2
      go_ret
      exact ⟨_, _, rfl, own_made (by rw [ints_length, rowZ_length]) (Nat.le_refl _) HF.out (fun i hi => by rw [ints_get _ i (by rw [rowZ_length]; exact hi)]; unfold fillF; rw [if_pos hi]), HE.out⟩
end Go.Proofs.Ytfbapbgiegploaa
