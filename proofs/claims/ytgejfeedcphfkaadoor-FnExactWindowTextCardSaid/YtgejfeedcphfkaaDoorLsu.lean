/- ListText: the program's side; the law's walk, where the table lies. -/
import Derived.Test.YtgejfeedcphfkaaDoorLtx
import Derived.Test.YtgejfeedcphfkaaDoorShj
namespace Go.Proofs.YtgejfeedcphfkaaDoor
open Go.ChangeShapes Go.WideShapes Go.ChangeAt Go.RowKit
set_option linter.unusedVariables false
theorem lens_le : ∀ (xs : List (List UInt8)), (∀ x ∈ xs, x.length ≤ 21) → Lib.lens xs ≤ 21 * xs.length
  | [], _ => by simp [Lib.lens]
  | x :: r, h => by
    have h1 := h x (by simp)
    have h2 := lens_le r (fun y hy => h y (by simp [hy]))
    simp only [Lib.lens, List.map_cons, List.sum_cons, List.length_cons] at h2 ⊢
    omega
theorem join_le {zs : List Int} (h : listB zs = true) : (Lib.join (zs.map Lib.itoa) [44]).length ≤ 140737488355328 := by
  by_cases h0 : zs.length = 0
  · have : zs = [] := List.eq_nil_of_length_eq_zero h0
    subst this; simp [Lib.join_nil]
  · have h1 := outL_len h zs.length (by omega) (Nat.le_refl _)
    have h2 := listB_len h
    unfold outL at h1
    rw [List.take_length] at h1
    omega
theorem tuple2 {a b c d : Value} (h1 : a = c) (h2 : b = d) : Ending.returned (.tuple #[a, b]) = Ending.returned (.tuple #[c, d]) := by rw [h1, h2]
theorem c_joinTexts (g c : Nat) (zs : List Int) (w : World) (hB : listB zs = true) (hlc : zs.length ≤ c) (hg : zs.length ≠ 0 → g < w.heap.size)
    (hc : ∀ i, i < zs.length → w.cell? ⟨g, i, none⟩ = some (.string (decT (zs[i]?.getD 0)))) :
    Calls Tryd.prog 102 #[.slice (some ⟨g, 0, none⟩) zs.length c] w fun e w' => e = .returned (.string (textT zs)) ∧ Ext w w' := by
  have hl64 := listB_len hB
  by_cases h0 : zs.length = 0
  · have HT := Lib.hid (show textT zs = noneT by unfold textT; rw [if_pos h0])
    have hb : ((zs.length : Int) == 0) = true := by rw [h0]; rfl
    have hb2 : (zs.length : Int) = 0 := by rw [h0]; rfl
    clear h0 hc hg
    go_enter Tryd.func102, Tryd.ntmps102
    go_wp2
    go_ret
    exact ⟨by rw [HT.out]; rfl, Ext.refl _⟩
  · have HT := Lib.hid (show textT zs = ⟨(outL zs zs.length).toArray⟩ by unfold textT; rw [if_neg h0])
    have hb2 : ¬ ((zs.length : Int) = 0) := by omega
    have hb : ((zs.length : Int) == 0) = false := by simpa using hb2
    have HJ := Lib.hid (show Calls Tryd.prog 82 #[.slice (some ⟨g, 0, none⟩) zs.length c, .string ⟨#[44]⟩] w fun e w' => e = .returned (.string (textT zs)) ∧ Ext w w' by
      have hL : (partL zs).length = zs.length := by unfold partL; simp
      have := Sh.strings_Join g 0 c (partL zs) ⟨#[44]⟩ w (fun j x hj => by
        have hjl : j < zs.length := by rw [← hL]; exact (List.getElem?_eq_some_iff.1 hj).1
        rw [Nat.zero_add, hc j hjl]
        unfold partL at hj
        rw [List.getElem?_map] at hj
        cases hz : zs[j]? with
        | none => rw [hz] at hj; simp at hj
        | some z => rw [hz] at hj; simp at hj; subst hj; simp) (hg h0) (by omega) (by omega) (by rw [partL_data]; exact join_le hB)
      rw [hL, partL_data] at this
      refine this.mono ?_
      rintro e w' ⟨rfl, hx⟩
      refine ⟨?_, hx⟩
      rw [HT.out]
      unfold outL
      rw [List.take_length])
    clear hc hg h0
    go_enter Tryd.func102, Tryd.ntmps102
    go_wp2_with (go_at_call 82; refine HJ.out.mono ?_; rintro e w' ⟨rfl, x1⟩; have X1 := Lib.hid x1; clear x1)
    go_ret
    exact ⟨rfl, X1.out⟩
theorem c_isValue (k : Int) (w : World) {b : Bool} (h : valB k = b) : Calls Tryd.prog 101 #[.int .i64 k] w fun e w' => e = .returned (.bool b) ∧ w = w' := by
  by_cases h0 : -1000000000000000 ≤ k
  · by_cases h1 : k ≤ 1000000000000000
    · have H := Lib.hid (show true = b by rw [← h]; exact (inB_yes h0 h1).symm)
      clear h
      go_enter Tryd.func101, Tryd.ntmps101
      go_wp2
      go_ret
      exact ⟨by first | (rw [← H.out]; rfl) | exact nbool (by rw [← H.out]; first | exact decide_eq_false (by omega) | exact decide_eq_true (by omega)), rfl⟩
    · have H := Lib.hid (show false = b by rw [← h]; exact (inB_no (by omega)).symm)
      have h1' : 1000000000000000 < k := by omega
      clear h h1
      go_enter Tryd.func101, Tryd.ntmps101
      go_wp2
      go_ret
      exact ⟨by first | (rw [← H.out]; rfl) | exact nbool (by rw [← H.out]; first | exact decide_eq_false (by omega) | exact decide_eq_true (by omega)), rfl⟩
  · have H := Lib.hid (show false = b by rw [← h]; exact (inB_no (by omega)).symm)
    have h0' : k < -1000000000000000 := by omega
    clear h h0
    go_enter Tryd.func101, Tryd.ntmps101
    go_wp2
    go_ret
    exact ⟨by first | (rw [← H.out]; rfl) | exact nbool (by rw [← H.out]; first | exact decide_eq_false (by omega) | exact decide_eq_true (by omega)), rfl⟩
theorem c_Dec_of (x : Int) (s : ByteArray) (w : World) (h : valB x = true) (hs : decT x = s) (hT : TabP w) :
    Calls Tryd.prog 94 #[.int .i64 x] w fun e w' => e = .returned (.string s) ∧ Ext w w' := by
  subst hs
  have := valB_of h
  exact c_impl_Decimal x w (by omega) (by omega) hT
set_option maxHeartbeats 1000000 in
theorem c_impl_ListText (a : Option Addr) (n0 cap : Nat) (zs : List Int) (w : World) (hm : n0 ≤ maxLen) (hT : TabP w) (h : Reads w a n0 (ints zs)) :
    Calls Tryd.prog 81 #[.slice a n0 cap] w fun e w' => e = .returned (.tuple #[.string (listT zs), .bool (listB zs)]) ∧ Ext w w' := by
  obtain ⟨rfl, hr⟩ := h.int
  have HR := Lib.hid hr
  have HT := Lib.hid hT
  unfold maxLen at hm
  clear hr h hT
  by_cases hl : 64 < zs.length
  · have hB := listB_long hl
    rw [listT_no hB, hB]
    have hl' : (64 : Int) < (zs.length : Int) := by omega
    clear hl hB
    go_enter Tryd.func81, Tryd.ntmps81
    go_wp2
    go_ret2
    exact ⟨rfl, Ext.refl _⟩
  · have hl' : (zs.length : Int) ≤ 64 := by omega
    have hmk := run_make_row' (P := Tryd.prog) 52 9 (.string ByteArray.empty) 16 Tryd.underlying52 info_str rfl .i64 .i64 zs.length (by omega) (by omega)
    go_enter Tryd.func81, Tryd.ntmps81
    go_wp2
    go_loopw [15] (fun i wr => ∃ k : Nat, k ≤ zs.length ∧ i = .int .i64 k ∧ (zs.take k).all valB = true ∧ wr.rowIs w.heap.size 9 zs.length (partF zs k) ∧ Ext w wr) (fun i _ => zs.length - (intOf i).toNat)
    case atStart => exact ⟨0, Nat.zero_le _, rfl, rfl, (World.rowIs_made _ _ _ _).congr fun i _ => rfl, Ext.alloc _ _⟩
    case round =>
      obtain ⟨k, hk, rfl, hall, hrow, hext⟩ := hrel
      have HA := Lib.hid hall
      have HW := Lib.hid hrow
      have HE := Lib.hid hext
      clear hall hrow hext
      by_cases hlt : k < zs.length
      · have hlt' : (k : Int) < (zs.length : Int) := by omega
        rcases HR.out with h0 | ⟨b, off, rfl, hc⟩
        · omega
        have hcell : wr.cell? ⟨b, off + k, none⟩ = some (.int .i64 (zs[k]?.getD 0)) := by
          have h1 := hc k hlt
          rw [HE.out.cell b _ (World.block_lt_of_cell? w ⟨b, off + k, none⟩ h1)]; exact h1
        obtain ⟨x, hx⟩ : ∃ x, zs[k]?.getD 0 = x := ⟨_, rfl⟩
        have HXZ := Lib.hid hx
        rw [hx] at hcell
        clear hc
        cases hb : valB x
        · have hB := listB_bad hlt (by rw [hx]; exact hb)
          have HB := Lib.hid hB
          have HL := Lib.hid (listT_no hB)
          have HX := Lib.hid hb
          clear hb hx hB
          go_wp2_with (go_at_call 101; refine (c_isValue x _ HX.out).mono ?_; rintro e w' ⟨rfl, rfl⟩)
          go_ret2
          exact ⟨by rw [HL.out, HB.out]; rfl, HE.out⟩
        · have HN := Lib.hid (val_step hlt HA.out (by rw [hx]; exact hb))
          have HX := Lib.hid hb
          obtain ⟨s, hs⟩ : ∃ s, decT x = s := ⟨_, rfl⟩
          have HS := Lib.hid hs
          clear hb hx hs
          go_wp2_with (go_at_call 101; refine (c_isValue x _ HX.out).mono ?_; rintro e w' ⟨rfl, rfl⟩)
          refine (c_Dec_of x s _ HX.out HS.out (HT.out.on HE.out)).mono ?_
          rintro e w1 ⟨rfl, x1⟩
          have hrow1 := HW.out.of_block (Below.block x1 _ HW.out.lt)
          have hcur := hrow1.cell hlt
          have hfro := hrow1.frozen k
          have HW1 := Lib.hid (partF_step zs k HXZ.out hrow1)
          have HE1 := Lib.hid (show Ext w (w1.setCell ⟨w.heap.size, k, none⟩ (.string s)) from Below.setCell (HE.out.trans x1) (Nat.le_refl _) _)
          clear x1 hrow1
          go_wp2
          go_roundw
          case rel => exact ⟨k + 1, by omega, by go_num, HN.out, by have := HW1.out; rw [HS.out] at this; exact this, HE1.out⟩
          case measure => simp [intOf]; omega
      · obtain rfl : k = zs.length := by omega
        have hB := listB_end HA.out (by omega)
        obtain ⟨T, hTT⟩ : ∃ T, textT zs = T := ⟨_, rfl⟩
        have HTT := Lib.hid hTT
        have HB := Lib.hid hB
        have HL := Lib.hid (show listT zs = T by rw [listT_yes hB, hTT])
        clear hB hTT
        go_wp2_with (go_at_call 102; refine (c_joinTexts w.heap.size zs.length zs _ HB.out (Nat.le_refl _) (fun _ => HW.out.lt) (fun i hi => by rw [HW.out.cell hi]; unfold partF; rw [if_pos hi])).mono ?_; rintro e w1 ⟨rfl, x1⟩; have X1 := Lib.hid (HE.out.trans x1); clear x1; rw [HTT.out])
        go_ret2
        exact ⟨by rw [HL.out, HB.out]; rfl, X1.out⟩
end Go.Proofs.YtgejfeedcphfkaaDoor
