/- ListText: what both sides answer. -/
import Derived.Test.YtgejfeedcphfkaaDoorDem
import Derived.Test.YtgejfeedcphfkaaDoorHas
import Derived.Test.YtgejfeedcphfkaaDoorIls
import Derived.Lib.Join
import Derived.Lib.ItoaLen
namespace Go.Proofs.YtgejfeedcphfkaaDoor
open Go.ChangeShapes Go.WideShapes Go.ChangeAt Go.RowKit
set_option linter.unusedVariables false
def valB (k : Int) : Bool := inB (-1000000000000000) k 1000000000000000
def listB (zs : List Int) : Bool := zs.all valB && decide (zs.length ≤ 64)
def outL (zs : List Int) (k : Nat) : List UInt8 := Lib.join ((zs.take k).map Lib.itoa) [44]
def noneT : ByteArray := ⟨#[110, 111, 110, 101]⟩
def textT (zs : List Int) : ByteArray := if zs.length = 0 then noneT else ⟨(outL zs zs.length).toArray⟩
def listT (zs : List Int) : ByteArray := if listB zs then textT zs else ⟨#[]⟩
theorem listT_no {zs : List Int} (h : listB zs = false) : listT zs = ⟨#[]⟩ := by unfold listT; rw [h]; rfl
theorem listT_yes {zs : List Int} (h : listB zs = true) : listT zs = textT zs := by unfold listT; rw [h, if_pos rfl]
theorem listB_bad {zs : List Int} {k : Nat} (hk : k < zs.length) (h : valB (zs[k]?.getD 0) = false) : listB zs = false := by
  unfold listB
  have : zs.all valB = false := by
    rw [List.all_eq_false]
    exact ⟨zs[k], List.getElem_mem hk, by rw [List.getElem?_eq_getElem hk] at h; simpa using h⟩
  rw [this, Bool.false_and]
theorem listB_long {zs : List Int} (h : 64 < zs.length) : listB zs = false := by
  unfold listB
  rw [show decide (zs.length ≤ 64) = false from decide_eq_false (by omega), Bool.and_false]
theorem val_step {zs : List Int} {k : Nat} (hk : k < zs.length) (ha : (zs.take k).all valB = true) (h : valB (zs[k]?.getD 0) = true) : (zs.take (k + 1)).all valB = true := by
  rw [List.take_succ_eq_append_getElem hk, List.all_append, ha]
  rw [List.getElem?_eq_getElem hk] at h
  simpa using h
theorem listB_end {zs : List Int} (ha : (zs.take zs.length).all valB = true) (h : zs.length ≤ 64) : listB zs = true := by
  rw [List.take_length] at ha
  unfold listB
  rw [ha, show decide (zs.length ≤ 64) = true from decide_eq_true h]; rfl
theorem listB_len {zs : List Int} (h : listB zs = true) : zs.length ≤ 64 := by
  unfold listB at h
  simp only [Bool.and_eq_true, decide_eq_true_eq] at h
  exact h.2
theorem listB_at {zs : List Int} {k : Nat} (h : listB zs = true) (hk : k < zs.length) : valB (zs[k]?.getD 0) = true := by
  unfold listB at h
  simp only [Bool.and_eq_true, List.all_eq_true] at h
  rw [List.getElem?_eq_getElem hk]
  exact h.1 _ (List.getElem_mem hk)
theorem valB_of {k : Int} (h : valB k = true) : -1000000000000000 ≤ k ∧ k ≤ 1000000000000000 := of_decide_eq_true h
theorem join_snoc (y : List UInt8) (sep : List UInt8) : ∀ (xs : List (List UInt8)), xs ≠ [] → Lib.join (xs ++ [y]) sep = Lib.join xs sep ++ (sep ++ y)
  | [], h => absurd rfl h
  | x :: r, _ => by
    rw [List.cons_append, Lib.join_cons, Lib.join_cons, List.append_assoc]
    congr 1
    simp [Lib.joinTail]
theorem outL_succ {zs : List Int} {k : Nat} {x : Int} (h0 : 1 ≤ k) (hk : k < zs.length) (hx : zs[k]?.getD 0 = x) : outL zs (k + 1) = outL zs k ++ (44 :: Lib.itoa x) := by
  unfold outL
  rw [List.getElem?_eq_getElem hk] at hx
  simp only [Option.getD_some] at hx
  rw [List.take_succ_eq_append_getElem hk, List.map_append, List.map_cons, List.map_nil, hx, join_snoc]
  · rfl
  · intro h
    have := congrArg List.length h
    rw [List.length_map, List.length_take, List.length_nil] at this
    omega
theorem outL_one {zs : List Int} {x : Int} (hk : 0 < zs.length) (hx : zs[0]?.getD 0 = x) : outL zs 1 = Lib.itoa x := by
  unfold outL
  rw [List.getElem?_eq_getElem hk] at hx
  simp only [Option.getD_some] at hx
  rw [List.take_succ_eq_append_getElem hk, List.take_zero, List.nil_append, List.map_cons, List.map_nil, hx, Lib.join_one]
theorem itoa_len {x : Int} (h : valB x = true) : (Lib.itoa x).length ≤ 21 := by
  have := valB_of h
  exact Lib.itoa_length_le x (by omega) (by omega)
theorem outL_len {zs : List Int} (h : listB zs = true) : ∀ k, 1 ≤ k → k ≤ zs.length → (outL zs k).length ≤ 22 * k
  | 0, h0, _ => by omega
  | k + 1, _, hk => by
    by_cases h0 : k = 0
    · subst h0
      rw [outL_one hk rfl]
      have := itoa_len (listB_at h (show 0 < zs.length by omega))
      omega
    · rw [outL_succ (by omega) (by omega) rfl, List.length_append, List.length_cons]
      have h1 := outL_len h k (by omega) (by omega)
      have h2 := itoa_len (listB_at h (show k < zs.length by omega))
      omega
def partF (zs : List Int) (k i : Nat) : Value := if i < k then .string (decT (zs[i]?.getD 0)) else .string ByteArray.empty
theorem partF_step (zs : List Int) (k : Nat) {x : Int} (hx : zs[k]?.getD 0 = x) {w : World} {b n : Nat} {t : TypeId} (h : w.rowIs b t n (partF zs k)) : (w.setCell ⟨b, k, none⟩ (.string (decT x))).rowIs b t n (partF zs (k + 1)) := by
  subst hx
  refine (h.set k _).congr fun i hi => ?_
  unfold partF
  by_cases e : i = k
  · subst e; rw [if_pos rfl, if_pos (by omega)]
  · rw [if_neg e]
    by_cases e2 : i < k
    · rw [if_pos e2, if_pos (by omega)]
    · rw [if_neg e2, if_neg (by omega)]
def partL (zs : List Int) : List ByteArray := zs.map decT
theorem partL_data (zs : List Int) : (partL zs).map (·.data.toList) = zs.map Lib.itoa := by
  unfold partL
  rw [List.map_map]
  rfl
theorem info_str : (Tryd.prog.info? 9).map (fun i => (i.zero, i.size, i.bytes)) = some (some (.string ByteArray.empty), 1, 16) := by kernel_rfl
theorem c_l00In_is (k lo hi : Int) (w : World) {b : Bool} (h : inB lo k hi = b) : Calls Tryd.prog 75 #[.int .i64 k, .int .i64 lo, .int .i64 hi] w fun e w' => e = .returned (.bool b) ∧ w = w' := by
  subst h; exact c_l00In k lo hi w
theorem c_spec_l01List (a : Option Addr) (n cap : Nat) (zs : List Int) (w : World) (hm : n ≤ maxLen) (h : Reads w a n (ints zs)) :
    Calls Tryd.prog 43 #[.slice a n cap] w fun e w' => e = .returned (.bool (listB zs)) ∧ w = w' := by
  unfold maxLen at hm
  obtain ⟨rfl, hr⟩ := h.int
  have HR := Lib.hid hr
  clear hr h
  go_enter Tryd.func43, Tryd.ntmps43
  go_wp2
  go_loopw [3] (fun i wr => ∃ k : Nat, k ≤ zs.length ∧ i = .int .i64 k ∧ wr = w ∧ (zs.take k).all valB = true) (fun i _ => zs.length - (intOf i).toNat)
  case atStart => exact ⟨0, Nat.zero_le _, rfl, rfl, rfl⟩
  case round =>
    obtain ⟨k, hk, rfl, rfl, ha⟩ := hrel
    have HA := Lib.hid ha; clear ha
    by_cases hlt : k < zs.length
    · have hlt' : (k : Int) < (zs.length : Int) := by omega
      rcases HR.out with h0 | ⟨b, off, rfl, hc⟩
      · omega
      have hcell := hc k hlt
      clear hc
      obtain ⟨x, hx⟩ : ∃ x, zs[k]?.getD 0 = x := ⟨_, rfl⟩
      rw [hx] at hcell
      cases hb : valB x
      · have HB := Lib.hid (listB_bad hlt (by rw [hx]; exact hb))
        have HX := Lib.hid hb
        clear hb hx
        go_wp2_with (go_at_call 75; refine (c_l00In_is x (-1000000000000000) 1000000000000000 _ HX.out).mono ?_; rintro e w' ⟨rfl, rfl⟩)
        go_ret
        exact ⟨by first | (rw [HB.out]; rfl) | exact nbool (by rw [HB.out]; rfl), rfl⟩
      · have HN := Lib.hid (val_step hlt HA.out (by rw [hx]; exact hb))
        have HX := Lib.hid hb
        clear hb hx
        go_wp2_with (go_at_call 75; refine (c_l00In_is x (-1000000000000000) 1000000000000000 _ HX.out).mono ?_; rintro e w' ⟨rfl, rfl⟩)
        go_roundw
        case rel => exact ⟨k + 1, by omega, by go_num, by first | rfl | trivial, HN.out⟩
        case measure => simp [intOf]; omega
    · have hge : (zs.length : Int) ≤ (k : Int) := by omega
      by_cases hl : 64 < zs.length
      · have HB := Lib.hid (listB_long hl)
        have hl' : (64 : Int) < (zs.length : Int) := by omega
        clear hl
        go_wp2
        go_ret
        exact ⟨by first | (rw [HB.out]; rfl) | exact nbool (by rw [HB.out]; first | rfl | exact decide_eq_false (by omega) | exact decide_eq_true (by omega)), rfl⟩
      · have hl' : (zs.length : Int) ≤ 64 := by omega
        have HN := Lib.hid (listB_end (by rw [← (show k = zs.length by omega)]; exact HA.out) (by omega))
        clear hl
        go_wp2
        go_ret
        exact ⟨by first | (rw [HN.out]; rfl) | exact nbool (by rw [HN.out]; first | rfl | exact decide_eq_false (by omega) | exact decide_eq_true (by omega)), rfl⟩
theorem c_dec_of (x : Int) (D : List UInt8) (w : World) (h : valB x = true) (hD : Lib.itoa x = D) :
    Calls Tryd.prog 76 #[.int .i64 x] w fun e w' => e = .returned (.string ⟨D.toArray⟩) ∧ Ext w w' := by
  subst hD
  have := valB_of h
  exact c_spec_l01Dec x w (by omega) (by omega)
set_option maxHeartbeats 1000000 in
theorem c_spec_l01Text (a : Option Addr) (n cap : Nat) (zs : List Int) (w : World) (hB : listB zs = true) (h : Reads w a n (ints zs)) :
    Calls Tryd.prog 77 #[.slice a n cap] w fun e w' => e = .returned (.string (textT zs)) ∧ Ext w w' := by
  have hl64 := listB_len hB
  obtain ⟨rfl, hr⟩ := h.int
  have HB := Lib.hid hB
  have HR := Lib.hid hr
  clear hr h hB
  by_cases h0 : zs.length = 0
  · have HT := Lib.hid (show textT zs = noneT by unfold textT; rw [if_pos h0])
    have hb : ((zs.length : Int) == 0) = true := by rw [h0]; rfl
    have hb2 : (zs.length : Int) = 0 := by rw [h0]; rfl
    clear h0
    go_enter Tryd.func77, Tryd.ntmps77
    go_wp2
    go_ret
    exact ⟨by rw [HT.out]; rfl, Ext.refl _⟩
  · have HT := Lib.hid (show textT zs = ⟨(outL zs zs.length).toArray⟩ by unfold textT; rw [if_neg h0])
    have hb2 : ¬ ((zs.length : Int) = 0) := by omega
    have hb : ((zs.length : Int) == 0) = false := by simpa using hb2
    have hpos : 0 < zs.length := by omega
    rcases HR.out with h1 | ⟨b, off, rfl, hc⟩
    · omega
    have HC := Lib.hid hc
    have hcell := hc 0 hpos
    rw [Nat.add_zero] at hcell
    obtain ⟨x, hx⟩ : ∃ x, zs[0]?.getD 0 = x := ⟨_, rfl⟩
    have HX := Lib.hid (show valB x = true by rw [← hx]; exact listB_at HB.out hpos)
    rw [hx] at hcell
    obtain ⟨D, hD⟩ : ∃ D, Lib.itoa x = D := ⟨_, rfl⟩
    have HD := Lib.hid hD
    have H1 := Lib.hid (show outL zs 1 = D by rw [outL_one hpos hx, hD])
    clear hc hx hD h0
    go_enter Tryd.func77, Tryd.ntmps77
    go_wp2_with (go_at_call 76; refine (c_dec_of x D _ HX.out HD.out).mono ?_; rintro e w1 ⟨rfl, x1⟩; have X1 := Lib.hid x1; clear x1)
    go_loopw [3, 4] (fun s i wr => ∃ k : Nat, 1 ≤ k ∧ k ≤ zs.length ∧ i = .int .i64 k ∧ s = .string ⟨(outL zs k).toArray⟩ ∧ Ext w wr) (fun _ i _ => zs.length - (intOf i).toNat)
    case atStart => exact ⟨1, Nat.le_refl _, hpos, rfl, by rw [H1.out], X1.out⟩
    case round =>
      obtain ⟨k, hk1, hk, rfl, rfl, hext⟩ := hrel
      have HE := Lib.hid hext
      clear hext hcell
      by_cases hlt : k < zs.length
      · have hlt' : (k : Int) < (zs.length : Int) := by omega
        have hcell : wr.cell? ⟨b, off + k, none⟩ = some (.int .i64 (zs[k]?.getD 0)) := by
          have h1 := HC.out k hlt
          rw [HE.out.cell b _ (World.block_lt_of_cell? w ⟨b, off + k, none⟩ h1)]; exact h1
        obtain ⟨y, hy⟩ : ∃ y, zs[k]?.getD 0 = y := ⟨_, rfl⟩
        have HY := Lib.hid (show valB y = true by rw [← hy]; exact listB_at HB.out hlt)
        rw [hy] at hcell
        obtain ⟨E, hE⟩ : ∃ E, Lib.itoa y = E := ⟨_, rfl⟩
        have HEE := Lib.hid hE
        have hEl : (E.length : Int) ≤ 21 := by have := itoa_len HY.out; rw [hE] at this; omega
        obtain ⟨L, hL⟩ : ∃ L, outL zs k = L := ⟨_, rfl⟩
        have hLl : (L.length : Int) ≤ 1408 := by have := outL_len HB.out k hk1 hk; rw [hL] at this; omega
        obtain ⟨M, hM⟩ : ∃ M, 44 :: E = M := ⟨_, rfl⟩
        have hMl : (M.length : Int) ≤ 22 := by rw [← hM]; simp; omega
        obtain ⟨N, hN⟩ : ∃ N, L ++ M = N := ⟨_, rfl⟩
        have e1 : ∀ w' : World, (Op.stringOp .add ⟨#[44]⟩ ⟨E.toArray⟩).run Tryd.prog w' = .ok (.string ⟨M.toArray⟩) w' := fun w' => by
          rw [← hM]; exact run_string_add_lists w' [44] E (by simp) (by omega)
        have e2 : ∀ w' : World, (Op.stringOp .add ⟨L.toArray⟩ ⟨M.toArray⟩).run Tryd.prog w' = .ok (.string ⟨N.toArray⟩) w' := fun w' => by
          rw [← hN]; exact run_string_add_lists w' L M (by omega) (by omega)
        have HN := Lib.hid (show outL zs (k + 1) = N by rw [outL_succ hk1 hlt hy, hL, hE, hM, hN])
        rw [hL]
        clear hy hE hL hM hN hEl hLl hMl
        go_wp2_with (go_at_call 76; refine (c_dec_of y E _ HY.out HEE.out).mono ?_; rintro e w2 ⟨rfl, x2⟩; have X2 := Lib.hid x2; clear x2)
        go_roundw
        case rel => exact ⟨k + 1, by omega, by omega, by go_num, by rw [HN.out], HE.out.trans X2.out⟩
        case measure => simp [intOf]; omega
      · obtain rfl : k = zs.length := by omega
        go_wp2
        go_ret
        exact ⟨by rw [HT.out]; rfl, HE.out⟩
end Go.Proofs.YtgejfeedcphfkaaDoor
