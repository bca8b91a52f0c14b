/- Texts of lists, joined by semicolons: by the program (textOfLists). -/
import Derived.Test.YtgejfeedcphfkaaDoorLsu
namespace Go.Proofs.YtgejfeedcphfkaaDoor
open Go.ChangeShapes Go.WideShapes Go.ChangeAt Go.RowKit
set_option linter.unusedVariables false
/-- a list of several -/
def lsA (lss : List (List Int)) (i : Nat) : List Int := lss[i]?.getD []
def lssB (lss : List (List Int)) : Bool := lss.all listB
def partS (lss : List (List Int)) : List ByteArray := lss.map textT
def joinT (lss : List (List Int)) : ByteArray := ⟨(Lib.join ((partS lss).map (·.data.toList)) [59]).toArray⟩
def lssT (lss : List (List Int)) : ByteArray := if lssB lss then joinT lss else ⟨#[]⟩
theorem lssT_no {lss : List (List Int)} (h : lssB lss = false) : lssT lss = ⟨#[]⟩ := by unfold lssT; rw [h]; rfl
theorem lssT_yes {lss : List (List Int)} (h : lssB lss = true) : lssT lss = joinT lss := by unfold lssT; rw [h, if_pos rfl]
theorem lssB_bad {lss : List (List Int)} {k : Nat} (hk : k < lss.length) (h : listB (lsA lss k) = false) : lssB lss = false := by
  unfold lssB
  rw [List.all_eq_false]
  exact ⟨lss[k], List.getElem_mem hk, by unfold lsA at h; rw [List.getElem?_eq_getElem hk] at h; simpa using h⟩
theorem lss_step {lss : List (List Int)} {k : Nat} (hk : k < lss.length) (ha : (lss.take k).all listB = true) (h : listB (lsA lss k) = true) : (lss.take (k + 1)).all listB = true := by
  rw [List.take_succ_eq_append_getElem hk, List.all_append, ha]
  unfold lsA at h
  rw [List.getElem?_eq_getElem hk] at h
  simpa using h
theorem textT_size {zs : List Int} (h : listB zs = true) : (textT zs).data.toList.length ≤ 1408 := by
  unfold textT
  by_cases h0 : zs.length = 0
  · rw [if_pos h0]; decide
  · rw [if_neg h0]
    have h1 := outL_len h zs.length (by omega) (Nat.le_refl _)
    have h2 := listB_len h
    show (outL zs zs.length).length ≤ _
    omega
theorem join_bound (c : Nat) : ∀ (xs : List (List UInt8)), (∀ x ∈ xs, x.length ≤ c) → (Lib.join xs [59]).length ≤ (c + 1) * xs.length
  | [], _ => by simp [Lib.join_nil]
  | [x], h => by
    rw [Lib.join_one]
    have := h x (by simp)
    simp; omega
  | x :: y :: r, h => by
    have ih := join_bound c (y :: r) (fun z hz => h z (by simp [hz]))
    have h1 := h x (by simp)
    have e : Lib.join (x :: y :: r) [59] = x ++ (59 :: Lib.join (y :: r) [59]) := by
      rw [Lib.join_cons, Lib.join_cons]; simp [Lib.joinTail]
    rw [e, List.length_append, List.length_cons]
    rw [show (x :: y :: r).length = (y :: r).length + 1 from rfl, Nat.mul_succ]
    omega
theorem joinT_size {lss : List (List Int)} (h : lssB lss = true) (hn : lss.length ≤ 8) : (Lib.join ((partS lss).map (·.data.toList)) [59]).length ≤ 11272 := by
  have := join_bound 1408 ((partS lss).map (·.data.toList)) (fun x hx => by
    unfold partS at hx
    rw [List.map_map] at hx
    obtain ⟨zs, hz, rfl⟩ := List.mem_map.1 hx
    exact textT_size (List.all_eq_true.1 h zs hz))
  have e : ((partS lss).map (·.data.toList)).length = lss.length := by unfold partS; simp
  rw [e] at this
  omega
def partG (lss : List (List Int)) (k i : Nat) : Value := if i < k then .string (textT (lsA lss i)) else .string ByteArray.empty
theorem partG_step (lss : List (List Int)) (k : Nat) {w : World} {b n : Nat} {t : TypeId} (h : w.rowIs b t n (partG lss k)) : (w.setCell ⟨b, k, none⟩ (.string (textT (lsA lss k)))).rowIs b t n (partG lss (k + 1)) := by
  refine (h.set k _).congr fun i hi => ?_
  unfold partG
  by_cases e : i = k
  · subst e; rw [if_pos rfl, if_pos (by omega)]
  · rw [if_neg e]
    by_cases e2 : i < k
    · rw [if_pos e2, if_pos (by omega)]
    · rw [if_neg e2, if_neg (by omega)]
/-- the headers of lists, read -/
structure LsAt (w : World) (g n : Nat) (lss : List (List Int)) (ad : Nat → Option Addr) (cp : Nat → Nat) : Prop where
  len : lss.length = n
  c : ∀ i, i < n → w.cell? ⟨g, i, none⟩ = some (.slice (ad i) (lsA lss i).length (cp i))
  r : ∀ i, i < n → Reads w (ad i) (lsA lss i).length (ints (lsA lss i)) ∧ (lsA lss i).length ≤ maxLen
set_option maxHeartbeats 2000000 in
theorem c_textOfLists (g n cap : Nat) (lss : List (List Int)) (ad : Nat → Option Addr) (cp : Nat → Nat) (w : World) (hn : n ≤ 8) (hT : TabP w) (h : LsAt w g n lss ad cp) :
    Calls Tryd.prog 47 #[.slice (some ⟨g, 0, none⟩) n cap] w fun e w' => e = .returned (.tuple #[.string (lssT lss), .bool (lssB lss)]) ∧ Ext w w' := by
  have HH := Lib.hid h
  have HT := Lib.hid hT
  have hz := h.len
  have HZ := Lib.hid hz
  have hnI : (n : Int) ≤ 8 := by omega
  have hmk := run_make_row' (P := Tryd.prog) 52 9 (.string ByteArray.empty) 16 Tryd.underlying52 info_str rfl .i64 .i64 n (by omega) (by omega)
  clear h hT hz
  go_enter Tryd.func47, Tryd.ntmps47
  go_wp2
  go_loopw [14] (fun i wr => ∃ k : Nat, k ≤ n ∧ i = .int .i64 k ∧ (lss.take k).all listB = true ∧ wr.rowIs w.heap.size 9 n (partG lss k) ∧ Ext w wr) (fun i _ => n - (intOf i).toNat)
  case atStart => exact ⟨0, Nat.zero_le _, rfl, rfl, (World.rowIs_made _ _ _ _).congr fun i _ => rfl, Ext.alloc _ _⟩
  case round =>
    obtain ⟨k, hk, rfl, hall, hrow, hext⟩ := hrel
    have HA := Lib.hid hall
    have HW := Lib.hid hrow
    have HE := Lib.hid hext
    clear hall hrow hext
    by_cases hlt : k < n
    · have hlt' : (k : Int) < (n : Int) := by omega
      have hcell := HH.out.c k hlt
      rw [← HE.out.cell g k (World.block_lt_of_cell? w ⟨g, k, none⟩ hcell)] at hcell
      have HR := Lib.hid ((HH.out.r k hlt).1.on HE.out)
      have hm := (HH.out.r k hlt).2
      obtain ⟨xs, hx⟩ : ∃ xs, lsA lss k = xs := ⟨_, rfl⟩
      have HX := Lib.hid hx
      rw [hx] at hcell HR hm
      obtain ⟨m, hml⟩ : ∃ m, xs.length = m := ⟨_, rfl⟩
      rw [hml] at hcell HR hm
      have HM := Lib.hid hm
      cases hb : listB xs
      · have hB := lssB_bad (by rw [HZ.out]; exact hlt) (show listB (lsA lss k) = false by rw [hx]; exact hb)
        have HB := Lib.hid hB
        have HL := Lib.hid (lssT_no hB)
        have HBX := Lib.hid hb
        clear hb hx hB hml hm
        go_wp2_with fail
        refine (c_impl_ListText _ m _ xs _ HM.out (HT.out.on HE.out) HR.out).mono ?_; rintro e w1 ⟨rfl, x1⟩
        rw [HBX.out]
        have X1 := Lib.hid (HE.out.trans x1)
        clear x1
        go_wp2
        go_ret2
        exact ⟨by rw [HL.out, HB.out]; rfl, X1.out⟩
      · have HN := Lib.hid (lss_step (by rw [HZ.out]; exact hlt) HA.out (show listB (lsA lss k) = true by rw [hx]; exact hb))
        have HBX := Lib.hid hb
        obtain ⟨s, hs⟩ : ∃ s, textT xs = s := ⟨_, rfl⟩
        have HS := Lib.hid hs
        have HLT := Lib.hid (show listT xs = s by rw [listT_yes hb, hs])
        clear hb hx hs hml hm
        go_wp2_with fail
        refine (c_impl_ListText _ m _ xs _ HM.out (HT.out.on HE.out) HR.out).mono ?_; rintro e w1 ⟨rfl, x1⟩
        rw [HBX.out, HLT.out]
        have hrow1 := HW.out.of_block (Below.block x1 _ HW.out.lt)
        have hcur := hrow1.cell hlt
        have hfro := hrow1.frozen k
        have HW1 := Lib.hid (partG_step lss k hrow1)
        have HE1 := Lib.hid (show Ext w (w1.setCell ⟨w.heap.size, k, none⟩ (.string s)) from Below.setCell (HE.out.trans x1) (Nat.le_refl _) _)
        clear x1 hrow1
        go_wp2
        go_roundw
        case rel => exact ⟨k + 1, by omega, by go_num, HN.out, by have := HW1.out; rw [HX.out, HS.out] at this; exact this, HE1.out⟩
        case measure => simp [intOf]; omega
    · obtain rfl : k = n := by omega
      have hB : lssB lss = true := by have := HA.out; rwa [← HZ.out, List.take_length] at this
      have HB := Lib.hid hB
      have HL := Lib.hid (lssT_yes hB)
      obtain ⟨T, hTT⟩ : ∃ T, joinT lss = T := ⟨_, rfl⟩
      have HTT := Lib.hid hTT
      have HJ := Lib.hid (show Calls Tryd.prog 82 #[.slice (some ⟨w.heap.size, 0, none⟩) k k, .string ⟨#[59]⟩] wr fun e w' => e = .returned (.string T) ∧ Ext wr w' by
        have hL : (partS lss).length = k := by unfold partS; rw [List.length_map]; exact HZ.out
        have := Sh.strings_Join w.heap.size 0 k (partS lss) ⟨#[59]⟩ wr (fun j x hj => by
          have hjl : j < k := by rw [← hL]; exact (List.getElem?_eq_some_iff.1 hj).1
          rw [Nat.zero_add, HW.out.cell hjl]
          unfold partG lsA
          rw [if_pos hjl]
          unfold partS at hj
          rw [List.getElem?_map] at hj
          cases hz : lss[j]? with
          | none => rw [hz] at hj; simp at hj
          | some z => rw [hz] at hj; simp at hj; subst hj; simp) HW.out.lt (by omega) (by omega) (by have := joinT_size HB.out (by rw [HZ.out]; exact hn); show (Lib.join _ [59]).length ≤ _; omega)
        rw [hL] at this
        refine this.mono ?_
        rintro e w' ⟨rfl, hx⟩
        exact ⟨by rw [← HTT.out]; rfl, hx⟩)
      clear hB hTT
      go_wp2_with (go_at_call 82; refine HJ.out.mono ?_; rintro e w1 ⟨rfl, x1⟩; have X1 := Lib.hid (HE.out.trans x1); clear x1)
      go_ret2
      exact ⟨by rw [HL.out, HB.out, HTT.out]; rfl, X1.out⟩
end Go.Proofs.YtgejfeedcphfkaaDoor
