/- IsName: what both functions answer; the law's walk. -/
import Derived.Test.YtnjkpapjioeffadRows
import Derived.WalkKit
import Derived.ProofKit
import Derived.OpenShut
import Derived.WalkLawsBesides
import Derived.Handy
import Derived.Lib.Hide
import Derived.Below
namespace Go.Proofs.Ytnjkpapjioeffad
open Go.ChangeShapes Go.WideShapes Go.ChangeAt Go.RowKit
set_option linter.unusedVariables false

theorem nm_take (s : ByteArray) (k : Nat) (h : k < s.size) : s.data.toList.take (k + 1) = s.data.toList.take k ++ [s[k]] := by
  rw [List.take_succ_eq_append_getElem (by simpa using h)]; rfl
def lowB (c : UInt8) : Bool := decide (97 ≤ c.toNat ∧ c.toNat ≤ 122)
def nameB (s : ByteArray) : Bool := decide (1 ≤ s.size ∧ s.size ≤ 8) && s.data.toList.all lowB
theorem all_snoc (s : ByteArray) (k : Nat) (h : k < s.size) (ha : (s.data.toList.take k).all lowB = true) (hc : 97 ≤ s[k].toNat ∧ s[k].toNat ≤ 122) : (s.data.toList.take (k + 1)).all lowB = true := by
  rw [nm_take s k h, List.all_append, ha]; simp [lowB, hc]
theorem name_bad (s : ByteArray) (k : Nat) (h : k < s.size) (hc : ¬ (97 ≤ s[k].toNat ∧ s[k].toNat ≤ 122)) : nameB s = false := by
  unfold nameB
  have hm : s[k] ∈ s.data.toList := Array.getElem_mem_toList (xs := s.data) h
  have : s.data.toList.all lowB = false := by
    rw [List.all_eq_false]
    exact ⟨_, hm, by simp [lowB]; omega⟩
  rw [this, Bool.and_false]
theorem name_end (s : ByteArray) (ha : (s.data.toList.take s.size).all lowB = true) : nameB s = decide (1 ≤ s.size ∧ s.size ≤ 8) := by
  unfold nameB
  rw [List.take_of_length_le (by simp)] at ha
  rw [ha, Bool.and_true]
theorem name_size (s : ByteArray) (h : ¬ (1 ≤ s.size ∧ s.size ≤ 8)) : nameB s = false := by
  unfold nameB
  rw [decide_eq_false h, Bool.false_and]
theorem nbool {a b : Bool} (h : a = b) : Ending.returned (.bool a) = Ending.returned (.bool b) := by rw [h]
theorem nm_width (s : ByteArray) (pos : Nat) (h : pos < s.size) : 1 ≤ (Utf8.decode s pos).2 := by
  by_cases ha : (s[pos]'h).toNat < 128
  · rw [decode_ascii s pos h ha]
    exact Nat.le_refl _
  · exact (decode_high s pos h (by omega)).2
set_option maxHeartbeats 400000 in
theorem c_spec_IsName (s : ByteArray) (w : World) (hs : s.size ≤ maxLen) :
    Calls Try.prog 4 #[.string s] w fun e w' => e = .returned (.bool (nameB s)) ∧ w = w' := by
  unfold maxLen at hs
  go_enter Try.func4, Try.ntmps4
  go_wp2
  go_loop [3] (fun i => ∃ k : Nat, k ≤ s.size ∧ i = .int .i64 k ∧ (s.data.toList.take k).all lowB = true) (fun i => s.size - (intOf i).toNat)
  case atStart => exact ⟨0, Nat.zero_le _, rfl, rfl⟩
  case round =>
    obtain ⟨k, hk, rfl, ha⟩ := hrel
    have HA := Lib.hid ha; clear ha
    by_cases hlt : k < s.size
    · by_cases h1 : 97 ≤ s[k].toNat
      · by_cases h2 : s[k].toNat ≤ 122
        · have HN := Lib.hid (all_snoc s k hlt HA.out ⟨h1, h2⟩)
          have h1' : (97 : Int) ≤ (s[k].toNat : Int) := by omega
          have h2' : (s[k].toNat : Int) ≤ 122 := by omega
          clear h1 h2
          go_wp2
          go_round
          case rel => exact ⟨k + 1, by omega, by go_num, HN.out⟩
          case measure => simp [intOf]; omega
        · have HN := Lib.hid (name_bad s k hlt (by omega))
          have h1' : (97 : Int) ≤ (s[k].toNat : Int) := by omega
          have h2' : (122 : Int) < (s[k].toNat : Int) := by omega
          clear h1 h2
          go_wp2
          go_ret
          exact ⟨by rw [HN.out]; rfl, rfl⟩
      · have HN := Lib.hid (name_bad s k hlt (by omega))
        have h1' : (s[k].toNat : Int) < 97 := by omega
        clear h1
        go_wp2
        go_ret
        exact ⟨by rw [HN.out]; rfl, rfl⟩
    · obtain rfl : k = s.size := by omega
      have HN := Lib.hid (name_end s HA.out)
      by_cases h1 : 1 ≤ s.size
      · by_cases h2 : s.size ≤ 8
        · have hd : decide (1 ≤ s.size ∧ s.size ≤ 8) = true := decide_eq_true ⟨h1, h2⟩
          have HD := Lib.hid hd; clear hd
          have h1' : (1 : Int) ≤ (s.size : Int) := by omega
          have h2' : (s.size : Int) ≤ 8 := by omega
          clear h1 h2
          go_wp2
          go_ret
          exact ⟨by first | (rw [HN.out, HD.out]; rfl) | exact nbool (by rw [HN.out, HD.out]; first | exact decide_eq_false (by omega) | exact decide_eq_true (by omega)), rfl⟩
        · have hd : decide (1 ≤ s.size ∧ s.size ≤ 8) = false := decide_eq_false (by omega)
          have HD := Lib.hid hd; clear hd
          have h1' : (1 : Int) ≤ (s.size : Int) := by omega
          have h2' : (8 : Int) < (s.size : Int) := by omega
          clear h1 h2
          go_wp2
          go_ret
          exact ⟨by first | (rw [HN.out, HD.out]; rfl) | exact nbool (by rw [HN.out, HD.out]; first | exact decide_eq_false (by omega) | exact decide_eq_true (by omega)), rfl⟩
      · have hd : decide (1 ≤ s.size ∧ s.size ≤ 8) = false := decide_eq_false (by omega)
        have HD := Lib.hid hd; clear hd
        have h1' : (s.size : Int) < 1 := by omega
        clear h1
        go_wp2
        go_ret
        exact ⟨by first | (rw [HN.out, HD.out]; rfl) | exact nbool (by rw [HN.out, HD.out]; first | exact decide_eq_false (by omega) | exact decide_eq_true (by omega)), rfl⟩
set_option maxHeartbeats 400000 in
theorem c_impl_IsName (s : ByteArray) (w : World) (hs : s.size ≤ maxLen) :
    Calls Try.prog 5 #[.string s] w fun e w' => e = .returned (.bool (nameB s)) ∧ Below w.heap.size w w' := by
  unfold maxLen at hs
  by_cases h1 : s.size < 1
  · have HN := Lib.hid (name_size s (by omega))
    go_enter Try.func5, Try.ntmps5
    go_wp2
    go_ret
    exact ⟨by rw [HN.out]; rfl, Below.refl _ _⟩
  · by_cases h2 : 8 < s.size
    · have HN := Lib.hid (name_size s (by omega))
      go_enter Try.func5, Try.ntmps5
      go_wp2
      go_ret
      exact ⟨by rw [HN.out]; rfl, Below.refl _ _⟩
    · have HD := Lib.hid (show decide (1 ≤ s.size ∧ s.size ≤ 8) = true from decide_eq_true (by omega))
      go_enter Try.func5, Try.ntmps5
      go_wp2
      go_loopw [] (fun w' => ∃ k : Nat, w' = w.iter s k ∧ k ≤ s.size ∧ (s.data.toList.take k).all lowB = true) (fun w' => s.size - w'.iterPos w.heap.size)
      case atStart => exact ⟨0, rfl, Nat.zero_le _, rfl⟩
      case round =>
        obtain ⟨k, rfl, hk, ha⟩ := hrel
        have HA := Lib.hid ha; clear ha
        by_cases hlt : k < s.size
        · by_cases hc : s[k].toNat < 128
          · have hnx : ∀ ty, (Instr.next (.pointer (some ⟨w.heap.size, 0, none⟩)) true ty).run Try.prog (w.iter s k) = _ := fun ty => run_next_ascii w s k ty hlt hc
            by_cases g1 : 97 ≤ s[k].toNat
            · by_cases g2 : s[k].toNat ≤ 122
              · have HN := Lib.hid (all_snoc s k hlt HA.out ⟨g1, g2⟩)
                have h1' : (97 : Int) ≤ (s[k].toNat : Int) := by omega
                have h2' : (s[k].toNat : Int) ≤ 122 := by omega
                clear g1 g2
                go_wp2
                go_roundw
                case rel => exact ⟨k + 1, rfl, by omega, HN.out⟩
                case measure => simp; omega
              · have HN := Lib.hid (name_bad s k hlt (by omega))
                have h1' : (97 : Int) ≤ (s[k].toNat : Int) := by omega
                have h2' : (122 : Int) < (s[k].toNat : Int) := by omega
                clear g1 g2
                go_wp2
                go_ret
                exact ⟨by rw [HN.out]; rfl, (Below.refl _ _).alloc (Nat.le_refl _) _⟩
            · have HN := Lib.hid (name_bad s k hlt (by omega))
              have h1' : (s[k].toNat : Int) < 97 := by omega
              clear g1
              go_wp2
              go_ret
              exact ⟨by rw [HN.out]; rfl, (Below.refl _ _).alloc (Nat.le_refl _) _⟩
          · have HN := Lib.hid (name_bad s k hlt (by omega))
            have hnx : ∀ ty, (Instr.next (.pointer (some ⟨w.heap.size, 0, none⟩)) true ty).run Try.prog (w.iter s k) = _ := fun ty => run_next_any w s k ty hlt
            obtain ⟨d1, _⟩ := decode_high s k hlt (by omega)
            have h1' : (97 : Int) ≤ ((Utf8.decode s k).1 : Int) := by omega
            have h2' : (122 : Int) < ((Utf8.decode s k).1 : Int) := by omega
            clear d1
            go_wp2
            go_ret
            exact ⟨by rw [HN.out]; rfl, (Below.refl _ _).alloc (Nat.le_refl _) _⟩
        · obtain rfl : k = s.size := by omega
          have HN := Lib.hid (name_end s HA.out)
          have hnx : ∀ ty, (Instr.next (.pointer (some ⟨w.heap.size, 0, none⟩)) true ty).run Try.prog (w.iter s s.size) = _ := fun ty => run_next_end w s s.size ty hlt
          go_wp2
          go_ret
          exact ⟨by rw [HN.out, HD.out]; rfl, (Below.refl _ _).alloc (Nat.le_refl _) _⟩
theorem walk_FnExactIsName (a0 : ByteArray) (w : World) (w0 : a0.size ≤ maxLen) :
    Calls Try.prog 3 #[.string a0] w fun e w' => e = .returned (.bool true) ∧ Below w.heap.size w w' := by
  have hs := w0
  unfold maxLen at w0
  by_cases hl : 1048576 < a0.size
  · go_enter Try.func3, Try.ntmps3
    go_wp2
    go_ret
    exact ⟨rfl, Below.refl _ _⟩
  · go_enter Try.func3, Try.ntmps3
    go_wp2_with (first | (go_at_call 4; refine (c_spec_IsName _ _ hs).mono ?_; rintro e w' ⟨rfl, rfl⟩) | (go_at_call 5; refine (c_impl_IsName _ _ hs).mono ?_; rintro e w' ⟨rfl, hb⟩))
    go_ret
    exact ⟨rfl, hb⟩
end Go.Proofs.Ytnjkpapjioeffad
