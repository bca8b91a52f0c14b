/- Lists of finite floats: what both sides answer (areFinite, l02Finite, IsList, l05List). -/
import Derived.Test.YtfbapbgiegploaaFlw
import Derived.Test.YtfbapbgiegploaaFky
namespace Go.Proofs.Ytfbapbgiegploaa
open Go.ChangeShapes Go.WideShapes Go.ChangeAt Go.RowKit Go.Proofs.Ytfbapbgiegploaa.Flo
set_option linter.unusedVariables false
theorem bits_at {zs : List Nat} (h : ∀ z ∈ zs, z < 4294967296) {i : Nat} (hi : i < zs.length) {x : Nat} (hx : zs[i]?.getD 0 = x) : x < 4294967296 := by
  rw [List.getElem?_eq_getElem hi] at hx
  rw [← hx]
  exact h _ (List.getElem_mem hi)
/-- a list of numbers, as the document asks for one -/
def listB (zs : List Nat) : Bool := decide (1 ≤ zs.length) && (decide (zs.length ≤ 256) && finB zs)
theorem listB_0 {zs : List Nat} (h : zs.length = 0) : listB zs = false := by unfold listB; rw [decide_eq_false (by omega)]; rfl
theorem listB_long {zs : List Nat} (h : 256 < zs.length) : listB zs = false := by unfold listB; rw [decide_eq_false (show ¬ zs.length ≤ 256 by omega)]; simp
theorem listB_fin {zs : List Nat} (h1 : 1 ≤ zs.length) (h : zs.length ≤ 256) : listB zs = finB zs := by unfold listB; rw [decide_eq_true h1, decide_eq_true h]; rfl
structure ListOk (zs : List Nat) : Prop where
  lo : 1 ≤ zs.length
  hi : zs.length ≤ 256
  fin : finB zs = true
theorem list_ok {zs : List Nat} (h : listB zs = true) : ListOk zs := by
  unfold listB at h
  simp only [Bool.and_eq_true, decide_eq_true_eq] at h
  exact ⟨h.1, h.2.1, h.2.2⟩
theorem c_impl_IsFinite_b (x : Nat) (w : World) {b : Bool} (h : x < 4294967296) (hb : isFin .f32 x = b) : Calls Try.prog 167 #[.float .f32 x] w fun e w' => e = .returned (.bool b) ∧ ∃ n, w' = w.drewN n := by
  subst hb; exact c_impl_IsFinite x w h
theorem c_spec_l01Finite_b (x : Nat) (w : World) {b : Bool} (hb : isFin .f32 x = b) : Calls Try.prog 170 #[.float .f32 x] w fun e w' => e = .returned (.bool b) ∧ ∃ n, w' = w.drewN n := by
  subst hb; exact c_spec_l01Finite x w
set_option maxHeartbeats 1000000 in
theorem c_impl_areFinite (a : Option Addr) (n cap : Nat) (zs : List Nat) (w : World) {r : Bool} (hr : finB zs = r) (hm : n ≤ maxLen) (hb : ∀ z ∈ zs, z < 4294967296) (h : Reads w a n (flos zs)) :
    Calls Try.prog 165 #[.slice a n cap] w fun e w' => e = .returned (.bool r) ∧ ∃ q, w' = w.drewN q := by
  unfold maxLen at hm
  obtain ⟨hz, hrd⟩ := h.flo
  have HZ := Lib.hid hz
  have HR := Lib.hid hrd
  have HB := Lib.hid hr
  have HBT := Lib.hid hb
  clear hz hrd hr h hb
  go_enter Try.func165, Try.ntmps165
  go_wp2
  go_loopw [7] (fun i wr => ∃ k q : Nat, k ≤ n ∧ i = .int .i64 k ∧ wr = w.drewN q ∧ ∀ j, j < k → isFin .f32 (zs[j]?.getD 0) = true) (fun i _ => n - (intOf i).toNat)
  case atStart => exact ⟨0, 0, Nat.zero_le _, rfl, rfl, fun j hj => absurd hj (Nat.not_lt_zero _)⟩
  case round =>
    obtain ⟨k, q, hk, rfl, hw, hall⟩ := hrel
    have HA := Lib.hid hall
    have HW := Lib.hid hw
    clear hall hw
    by_cases hlt : k < n
    · rcases HR.out with he | ⟨g, off, rfl, hc⟩
      · omega
      have hcell : wr.cell? ⟨g, off + k, none⟩ = some (.float .f32 (zs[k]?.getD 0)) := by rw [HW.out]; exact hc k hlt
      obtain ⟨x, hx⟩ : ∃ x, zs[k]?.getD 0 = x := ⟨_, rfl⟩
      have HX := Lib.hid hx
      have HX32 := Lib.hid (bits_at HBT.out (by rw [HZ.out]; exact hlt) hx)
      rw [hx] at hcell
      clear hc hx
      cases hin : isFin .f32 x
      · have HI := Lib.hid hin
        clear hin
        go_wp2_with (go_at_call 167; refine (c_impl_IsFinite_b x _ HX32.out HI.out).mono ?_; rintro e w' ⟨rfl, q', rfl⟩)
        go_ret
        exact ⟨retB (by rw [← HB.out]; exact (finB_bad (by rw [HZ.out]; exact hlt) HX.out HI.out).symm), _, by rw [HW.out, World.drewN_drewN]⟩
      · have HI := Lib.hid hin
        clear hin
        go_wp2_with (go_at_call 167; refine (c_impl_IsFinite_b x _ HX32.out HI.out).mono ?_; rintro e w' ⟨rfl, q', rfl⟩)
        go_roundw
        case rel => exact ⟨k + 1, _, by omega, by go_num, by rw [HW.out, World.drewN_drewN], fun j hj => by
          by_cases e : j = k
          · subst e; rw [HX.out]; exact HI.out
          · exact HA.out j (by omega)⟩
        case measure => simp [intOf]; omega
    · obtain rfl : k = n := by omega
      go_wp2
      go_ret
      exact ⟨retB (by rw [← HB.out]; exact (finB_mk (by rw [HZ.out]; exact HA.out)).symm), _, HW.out⟩
set_option maxHeartbeats 1000000 in
theorem c_spec_l02Finite (a : Option Addr) (n cap : Nat) (zs : List Nat) (w : World) {r : Bool} (hr : finB zs = r) (hm : n ≤ maxLen) (h : Reads w a n (flos zs)) :
    Calls Try.prog 243 #[.slice a n cap] w fun e w' => e = .returned (.bool r) ∧ ∃ q, w' = w.drewN q := by
  unfold maxLen at hm
  obtain ⟨hz, hrd⟩ := h.flo
  have HZ := Lib.hid hz
  have HR := Lib.hid hrd
  have HB := Lib.hid hr
  clear hz hrd hr h
  go_enter Try.func243, Try.ntmps243
  go_wp2
  go_loopw [3] (fun i wr => ∃ k q : Nat, k ≤ n ∧ i = .int .i64 k ∧ wr = w.drewN q ∧ ∀ j, j < k → isFin .f32 (zs[j]?.getD 0) = true) (fun i _ => n - (intOf i).toNat)
  case atStart => exact ⟨0, 0, Nat.zero_le _, rfl, rfl, fun j hj => absurd hj (Nat.not_lt_zero _)⟩
  case round =>
    obtain ⟨k, q, hk, rfl, hw, hall⟩ := hrel
    have HA := Lib.hid hall
    have HW := Lib.hid hw
    clear hall hw
    by_cases hlt : k < n
    · rcases HR.out with he | ⟨g, off, rfl, hc⟩
      · omega
      have hcell : wr.cell? ⟨g, off + k, none⟩ = some (.float .f32 (zs[k]?.getD 0)) := by rw [HW.out]; exact hc k hlt
      obtain ⟨x, hx⟩ : ∃ x, zs[k]?.getD 0 = x := ⟨_, rfl⟩
      have HX := Lib.hid hx
      rw [hx] at hcell
      clear hc hx
      cases hin : isFin .f32 x
      · have HI := Lib.hid hin
        clear hin
        go_wp2_with (go_at_call 170; refine (c_spec_l01Finite_b x _ HI.out).mono ?_; rintro e w' ⟨rfl, q', rfl⟩)
        go_ret
        exact ⟨retB (by rw [← HB.out]; exact (finB_bad (by rw [HZ.out]; exact hlt) HX.out HI.out).symm), _, by rw [HW.out, World.drewN_drewN]⟩
      · have HI := Lib.hid hin
        clear hin
        go_wp2_with (go_at_call 170; refine (c_spec_l01Finite_b x _ HI.out).mono ?_; rintro e w' ⟨rfl, q', rfl⟩)
        go_roundw
        case rel => exact ⟨k + 1, _, by omega, by go_num, by rw [HW.out, World.drewN_drewN], fun j hj => by
          by_cases e : j = k
          · subst e; rw [HX.out]; exact HI.out
          · exact HA.out j (by omega)⟩
        case measure => simp [intOf]; omega
    · obtain rfl : k = n := by omega
      go_wp2
      go_ret
      exact ⟨retB (by rw [← HB.out]; exact (finB_mk (by rw [HZ.out]; exact HA.out)).symm), _, HW.out⟩
end Go.Proofs.Ytfbapbgiegploaa
