/- ReadList: both sides. -/
import Derived.Test.YtgejfeedcphfkaaDoorRee
import Derived.Test.YtgejfeedcphfkaaDoorCou
import Derived.Test.YtgejfeedcphfkaaDoorShc
import Derived.Test.YtgejfeedcphfkaaDoorRow
namespace Go.Proofs.YtgejfeedcphfkaaDoor
open Go.ChangeShapes Go.WideShapes Go.ChangeAt Go.RowKit
set_option linter.unusedVariables false
theorem cutL_mem (c : UInt8) : ∀ (l : List UInt8) (x : List UInt8), x ∈ cutL c l → x.length ≤ l.length
  | [], x, h => by simp [cutL] at h; subst h; exact Nat.le_refl _
  | b :: r, x, h => by
    unfold cutL at h
    by_cases e : b = c
    · rw [if_pos e] at h
      rcases List.mem_cons.1 h with rfl | h
      · exact Nat.zero_le _
      · have := cutL_mem c r x h; rw [List.length_cons]; omega
    · rw [if_neg e] at h
      cases hq : cutL c r with
      | nil => exact absurd hq (cutL_ne c r)
      | cons y ys =>
        rw [hq] at h
        dsimp only at h
        rcases List.mem_cons.1 h with rfl | h
        · have := cutL_mem c r y (by rw [hq]; simp); rw [List.length_cons, List.length_cons]; omega
        · have := cutL_mem c r x (by rw [hq]; simp [h]); rw [List.length_cons]; omega
theorem getP_size (c : UInt8) (s : ByteArray) {i : Nat} (h : i < (pcs c s).length) : (getP (pcs c s) i).size ≤ s.size := by
  have hm : (pcs c s)[i] ∈ cutL c s.data.toList := List.getElem_mem h
  have := cutL_mem c _ _ hm
  unfold getP
  rw [List.getElem?_eq_getElem h]
  show ((pcs c s)[i]).length ≤ s.data.toList.length
  exact this
theorem count_pcs (c : UInt8) (s : ByteArray) : (Lib.countByte s.data.toList c : Nat) + 1 = (pcs c s).length := by
  have h := cut_len s c
  have e : Lib.countB s ⟨#[c]⟩ = Lib.count s.data.toList [c] := rfl
  rw [e, Lib.count_one] at h
  exact h
def noneB (s : ByteArray) : Bool := s.toList == [110, 111, 110, 101]
/-- all of the first k pieces are integers -/
def goodTo (P : List (List UInt8)) : Nat → Bool
  | 0 => true
  | k + 1 => goodTo P k && readB (getP P k)
def valsTo (P : List (List UInt8)) (k : Nat) : List Int := (List.range k).map fun i => readV (getP P i)
theorem valsTo_length (P : List (List UInt8)) (k : Nat) : (valsTo P k).length = k := by simp [valsTo]
theorem valsTo_snoc (P : List (List UInt8)) (k : Nat) : ints (valsTo P (k + 1)) = ints (valsTo P k) ++ [.int .i64 (readV (getP P k))] := by simp [valsTo, ints, List.range_succ]
theorem goodTo_bad (P : List (List UInt8)) {k : Nat} (h : readB (getP P k) = false) : ∀ n, k < n → goodTo P n = false
  | 0, h0 => by omega
  | n + 1, h1 => by
    show (goodTo P n && readB (getP P n)) = false
    by_cases e : k = n
    · subst e; rw [h, Bool.and_false]
    · rw [goodTo_bad P h n (by omega), Bool.false_and]
def rlR (s : ByteArray) : List Int × Bool := if noneB s then ([], true) else if 64 < (pcs 44 s).length then ([], false) else if goodTo (pcs 44 s) (pcs 44 s).length then (valsTo (pcs 44 s) (pcs 44 s).length, true) else ([], false)
theorem rlR_none {s : ByteArray} (h : noneB s = true) : rlR s = ([], true) := by unfold rlR; rw [if_pos h]
theorem rlR_long {s : ByteArray} (h : noneB s = false) (h2 : 64 < (pcs 44 s).length) : rlR s = ([], false) := by unfold rlR; rw [h, if_neg (by decide), if_pos h2]
theorem rlR_bad {s : ByteArray} (h : noneB s = false) (h2 : ¬ 64 < (pcs 44 s).length) (h3 : goodTo (pcs 44 s) (pcs 44 s).length = false) : rlR s = ([], false) := by unfold rlR; rw [h, if_neg (by decide), if_neg h2, h3, if_neg (by decide)]
theorem rlR_yes {s : ByteArray} (h : noneB s = false) (h2 : ¬ 64 < (pcs 44 s).length) (h3 : goodTo (pcs 44 s) (pcs 44 s).length = true) : rlR s = (valsTo (pcs 44 s) (pcs 44 s).length, true) := by unfold rlR; rw [h, if_neg (by decide), if_neg h2, h3, if_pos rfl]
theorem rlR_le (s : ByteArray) : (rlR s).1.length ≤ 256 := by
  cases h : noneB s
  · by_cases h2 : 64 < (pcs 44 s).length
    · rw [rlR_long h h2]; exact Nat.zero_le _
    · cases h3 : goodTo (pcs 44 s) (pcs 44 s).length
      · rw [rlR_bad h h2 h3]; exact Nat.zero_le _
      · rw [rlR_yes h h2 h3]; show (valsTo _ _).length ≤ 256; rw [valsTo_length]; omega
  · rw [rlR_none h]; exact Nat.zero_le _
theorem ownsOnL {w w' : World} {base : Nat} {e : TypeId} {size : Nat} {v : Value} {n : Nat} {xs : List Value} (h : w.ownsRow base e size v n xs) (x : Ext w w') : w'.ownsRow base e size v n xs := by
  refine ⟨h.1, ?_⟩
  rcases h.2 with h0 | ⟨g, cap, cur, rfl, hb, hg, rest⟩
  · exact .inl h0
  · exact .inr ⟨g, cap, cur, rfl, hb, (Below.block x g (Array.getElem?_eq_some_iff.1 hg).1).trans hg, rest⟩
theorem cellOnL {w w' : World} {b o : Nat} {v : Value} (h : w.cell? ⟨b, o, none⟩ = some v) (e : Ext w w') : w'.cell? ⟨b, o, none⟩ = some v := by
  rw [e.cell b o (World.block_lt_of_cell? w ⟨b, o, none⟩ h)]; exact h
theorem ownsRow_blockL {w : World} {base n : Nat} {t : TypeId} {v : Value} {xs : List Value} (h : w.ownsRow base t 1 v n xs) : ∀ g, v.ownBlock = some g → ∃ vs q, w.heap[g]? = some (.cells vs t q) := by
  intro g hg
  rcases h.2 with ⟨rfl, _⟩ | ⟨g0, cap, cur, rfl, hb, hg0, rest⟩
  · cases hg
  · cases hg; exact ⟨_, _, hg0⟩
theorem keep_row {w2 w3 : World} {g base n : Nat} {t t' : TypeId} {v : Value} {xs : List Value} {o : Obj} {vs : Array Value} {q : Nat × Nat} (hne : t ≠ t') (hg : w2.heap[g]? = some (.cells vs t' q)) (ho : w2.ownsRow base t 1 v n xs) (hgr : (w2.alloc o).grownBy w3 v.ownBlock) : w3.heap[g]? = some (.cells vs t' q) := by
  have hlt : g < w2.heap.size := (Array.getElem?_eq_some_iff.1 hg).1
  have h1 : (w2.alloc o).heap[g]? = some (.cells vs t' q) := (Below.block (Ext.alloc w2 o) g hlt).trans hg
  refine (hgr.block g (by simp; omega) fun e => ?_).trans h1
  obtain ⟨vs2, q2, h2⟩ := ownsRow_blockL ho g e.symm
  rw [hg] at h2
  simp at h2
  exact hne h2.2.1.symm
theorem goodTo_step (P : List (List UInt8)) (k : Nat) : goodTo P (k + 1) = (goodTo P k && readB (getP P k)) := rfl
def FactL (w : World) : Prop := FactR w ∧ MaxP w
theorem FactL.on {w w' : World} (h : FactL w) (e : Ext w w') : FactL w' := ⟨h.1.on e, h.2.on e⟩
theorem c_SplitB (s : ByteArray) (c : UInt8) (w : World) (hs : s.size ≤ 1048576) (hM : MaxP w) :
    Calls Tryd.prog 90 #[.string s, .string ⟨#[c]⟩] w fun e w' => e = .returned (.slice (some ⟨w.heap.size, 0, none⟩) (pcs c s).length (pcs c s).length) ∧ Ext w w' ∧ w'.heap[w.heap.size]? = some (.cells (txts (pcs c s)).toArray 9 (0, 0)) := by
  obtain ⟨m, hm⟩ := hM
  have h := Sh.strings_Split s ⟨#[c]⟩ m w (by omega) hm (by simp [ByteArray.size])
  rw [cut_len s c, split_cut s c] at h
  refine h.mono ?_
  rintro e w' ⟨rfl, rfl⟩
  exact ⟨rfl, Ext.alloc _ _, Box.alloc w (txts (cutL c s.data.toList)).toArray 9⟩
theorem txts_cell {w : World} {g : Nat} {P : List (List UInt8)} {t : TypeId} (h : w.heap[g]? = some (.cells (txts P).toArray t (0, 0))) {i : Nat} (hi : i < P.length) : w.cell? ⟨g, i, none⟩ = some (.string (getP P i)) := by
  rw [(show Box w g t (txts P).toArray from h).cell i, List.getElem?_toArray]
  exact txts_get P i hi
set_option maxRecDepth 20000 in
set_option maxHeartbeats 4000000 in
theorem c_readItems (s : ByteArray) (w : World) {R : List Int} {b : Bool} (hv : rlR s = (R, b)) (hs : s.size ≤ 1048576) (hF : FactL w) :
    Calls Tryd.prog 71 #[.string s, .int .i64 64, .func (.func 72) #[] #[]] w (RetSB 2 R.length (ints R) b w) := by
  have HF := Lib.hid hF
  have HS := Lib.hid hs
  clear hF hs
  cases hn : noneB s
  · have n1 : (s.toList == [110, 111, 110, 101]) = false := hn
    have n2 : ¬ s.toList = [110, 111, 110, 101] := fun e => by rw [e] at n1; simp at n1
    have hp := pcs_pos 44 s
    have hpl := pcs_len 44 s
    have hct := count_pcs 44 s
    obtain ⟨m, hm⟩ : ∃ m, (pcs 44 s).length = m := ⟨_, rfl⟩
    obtain ⟨ct, hc⟩ : ∃ ct : Nat, Lib.countByte s.data.toList 44 = ct := ⟨_, rfl⟩
    rw [hm] at hp hpl hct
    rw [hc] at hct
    have HM := Lib.hid hm
    obtain ⟨z, hz⟩ : ∃ z : Int, (ct : Int) = z := ⟨_, rfl⟩
    have HC := Lib.hid (show Calls Tryd.prog 99 #[.string s, .string ⟨#[44]⟩] w fun e w' => e = .returned (.int .i64 z) ∧ w' = w by
      have := Sh.strings_Count_one s 44 w
      rw [hc, hz] at this
      exact this)
    by_cases hl : 64 < m
    · rw [rlR_long hn (by rw [hm]; exact hl)] at hv
      cases hv
      have hI : (64 : Int) ≤ z := by omega
      clear hn hm hc hct hp hpl hl hz
      go_enter Tryd.func71, Tryd.ntmps71
      go_wp2_with fail
      refine HC.out.mono ?_; rintro e w' ⟨rfl, rfl⟩
      go_wp2
      go_ret2
      exact ⟨none, 0, rfl, Own.nil _ _ _ _, Ext.refl _⟩
    · have hI : z < 64 := by omega
      have hI2 : decide ((64 : Int) ≤ z) = false := decide_eq_false (by omega)
      obtain ⟨i0, hi, hz0, hz1, hz2⟩ := info_parts info_i64
      have HN := Lib.hid hn
      have HL := Lib.hid (show ¬ 64 < (pcs 44 s).length by rw [hm]; exact hl)
      have HV := Lib.hid hv
      have HM1 := Lib.hid (show 1 ≤ m from hp)
      have HM64 := Lib.hid (show m ≤ 64 by omega)
      obtain ⟨P, hP⟩ : ∃ P, pcs 44 s = P := ⟨_, rfl⟩
      have HP := Lib.hid hP
      have HGS := Lib.hid (show ∀ i, i < m → (getP P i).size ≤ 1048576 from fun i hi => by
        have := getP_size 44 s (i := i) (by rw [HM.out]; exact hi)
        rw [hP] at this
        have := HS.out
        omega)
      clear hn hm hc hct hp hpl hl hv hP hz
      go_enter Tryd.func71, Tryd.ntmps71
      go_wp2_with fail
      refine HC.out.mono ?_; rintro e w' ⟨rfl, rfl⟩
      have XA := Lib.hid (Ext.alloc w' (.cells #[] 2))
      have HO0 := Lib.hid (World.ownsRow_made (base := w'.heap.size) (e := 2) (size := 1) w' #[] 0 (Nat.le_refl _) (Nat.zero_le _) rfl)
      go_wp2_with fail
      refine (c_SplitB s 44 _ HS.out (HF.out.2.on XA.out)).mono ?_; rintro e w1 ⟨rfl, x1, hc⟩
      rw [HM.out]
      rw [HP.out] at hc
      obtain ⟨g, hg⟩ : ∃ g, (w'.alloc (.cells #[] 2)).heap.size = g := ⟨_, rfl⟩
      rw [hg] at hc ⊢
      clear hI hI2 hg
      have X1 := Lib.hid (XA.out.trans x1)
      have HBK := Lib.hid (show ∃ vs q, w1.heap[g]? = some (.cells vs 9 q) ∧ ∀ w : World, w.heap[g]? = some (.cells vs 9 q) → ∀ i, i < m → w.cell? ⟨g, i, none⟩ = some (.string (getP P i)) from ⟨_, _, hc, fun wx hx i hi => txts_cell hx (by rw [← HP.out, HM.out]; exact hi)⟩)
      have HO1 := Lib.hid (ownsOnL HO0.out x1)
      clear x1 hc
      obtain ⟨bvs, bq, hbk, hbc⟩ := HBK.out
      have HB1 := Lib.hid hbk
      have HBC := Lib.hid hbc
      clear hbk hbc
      go_wp2
      go_loopw [8, 23] (fun v i wr => ∃ k : Nat, k ≤ m ∧ i = .int .i64 (k : Int) ∧ wr.ownsRow w'.heap.size 2 1 v k (ints (valsTo P k)) ∧ goodTo P k = true ∧ Ext w' wr ∧ wr.heap[g]? = some (.cells bvs 9 bq)) (fun _ i _ => m - (intOf i).toNat)
      case atStart => exact ⟨0, Nat.zero_le _, rfl, HO1.out, rfl, X1.out, HB1.out⟩
      case round =>
        obtain ⟨k, hk, rfl, hown, hgood, hext, hblk⟩ := hrel
        have HBL := Lib.hid hblk
        have HO := Lib.hid hown
        have HG := Lib.hid hgood
        have HE := Lib.hid hext
        clear hown hgood hext hblk
        by_cases hlt : k < m
        · have hltI : (k : Int) < (m : Int) := by omega
          have hck := HBC.out _ HBL.out k hlt
          have hsz := HGS.out k hlt
          have hgs := goodTo_step P k
          have hvs := valsTo_snoc P k
          have hbad := fun hb => goodTo_bad P (k := k) hb m hlt
          obtain ⟨t, ht⟩ : ∃ t, getP P k = t := ⟨_, rfl⟩
          rw [ht] at hck hsz hgs hvs hbad
          have HSZ := Lib.hid hsz
          have HGST := Lib.hid hgs
          clear ht hsz hgs
          obtain ⟨y, hy⟩ : ∃ y, readV t = y := ⟨_, rfl⟩
          rw [hy] at hvs
          have HVS := Lib.hid hvs
          have HY := Lib.hid hy
          clear hy hvs
          cases hb : readB t
          · have HBD := Lib.hid (hbad hb)
            have HRB := Lib.hid hb
            clear hb hbad
            go_wp2_with fail
            refine (c_impl_ReadDecimal t _ HSZ.out (HF.out.1.on HE.out)).mono ?_; rintro e w2 ⟨rfl, x2⟩
            rw [HY.out, HRB.out]
            have X2 := Lib.hid (HE.out.trans x2)
            clear x2
            have hq := HV.out
            rw [rlR_bad HN.out HL.out (by rw [HM.out, HP.out]; exact HBD.out)] at hq
            cases hq
            go_wp2
            go_ret2
            exact ⟨none, 0, rfl, Own.nil _ _ _ _, X2.out⟩
          · have HGN := Lib.hid (show goodTo P (k + 1) = true by rw [HGST.out, HG.out, hb]; rfl)
            have HRB := Lib.hid hb
            clear hb hbad
            go_wp2_with fail
            refine (c_impl_ReadDecimal t _ HSZ.out (HF.out.1.on HE.out)).mono ?_; rintro e w2 ⟨rfl, x2⟩
            rw [HY.out, HRB.out]
            have HE2 := Lib.hid (HE.out.trans x2)
            have HO2 := Lib.hid (ownsOnL HO.out x2)
            have HES := Lib.hid (HE.out.trans x2).size
            have HBK2 := Lib.hid (show w2.heap[g]? = some (.cells bvs 9 bq) from (Below.block x2 g (Array.getElem?_eq_some_iff.1 HBL.out).1).trans HBL.out)
            clear x2
            go_wp2_with (at_builtin; refine wpList_append_own _ rfl _ _ 22 rfl w'.heap.size 2 i0 (.int .i64 0) 1 8 Tryd.underlying22 hi hz0 hz1 hz2 rfl (by decide) _ _ _ rfl (HO2.out.alloc _) ⟨_, 0, none⟩ 1 1 [.int .i64 y] rfl rfl (one_cell_at _ _ _) (by intro u hu; simp at hu; subst hu; rfl) (by unfold maxLen; have := HM64.out; omega) (by have := HM64.out; omega) (by have := HES.out; first | (simp; omega) | omega) ?_; intro v' w3 hown' hgrow _; have HB3 := Lib.hid (keep_row (by decide) HBK2.out HO2.out hgrow); have HX3 := Lib.hid (show Ext w' w3 from Below.grown (HE2.out.stepA _) hgrow (by have := HES.out; first | (simp; omega) | omega) (fun j hj => by have := (HO2.out.lt j hj).1; first | omega | (simp; omega))); have HOW := Lib.hid (show w3.ownsRow w'.heap.size 2 1 v' (k + 1) (ints (valsTo P (k + 1))) by rw [HVS.out]; exact hown'); clear hown' hgrow)
            have HW1 := Lib.hid (show wrap64 ((k : Int) + 1) = (k : Int) + 1 by have := HM64.out; unfold wrap64; omega)
            rw [HW1.out]
            go_roundw
            case rel => exact ⟨k + 1, by omega, by first | rfl | go_num, HOW.out, HGN.out, HX3.out, HB3.out⟩
            case measure => first | (simp [intOf]; done) | (simp [intOf]; omega)
        · obtain rfl : k = m := by omega
          have hq := HV.out
          rw [rlR_yes HN.out HL.out (by rw [HM.out, HP.out]; exact HG.out), HM.out, HP.out] at hq
          cases hq
          obtain ⟨va, vc, rfl, hol⟩ := Own.of_row (e := 0) HO.out
          have HOL := Lib.hid hol
          clear hol
          go_wp2
          go_ret2
          rw [valsTo_length]
          exact ⟨va, vc, rfl, HOL.out, HE.out⟩
  · rw [rlR_none hn] at hv
    cases hv
    have n1 : (s.toList == [110, 111, 110, 101]) = true := hn
    have n2 : s.toList = [110, 111, 110, 101] := by simpa using n1
    clear hn n1
    go_enter Tryd.func71, Tryd.ntmps71
    go_wp2
    go_ret2
    exact ⟨none, 0, rfl, Own.nil _ _ _ _, Ext.refl _⟩
theorem c_impl_ReadList (s : ByteArray) (w : World) {R : List Int} {b : Bool} (hv : rlR s = (R, b)) (hs : s.size ≤ 1048576) (hF : FactL w) :
    Calls Tryd.prog 37 #[.string s] w (RetSB 2 R.length (ints R) b w) := by
  have HF := Lib.hid hF
  have HV := Lib.hid hv
  clear hF hv
  go_enter Tryd.func37, Tryd.ntmps37
  go_wp2_with fail
  refine (c_readItems s _ HV.out hs HF.out).mono ?_; rintro e w1 ⟨a, c, rfl, o1, x1⟩
  have O1 := Lib.hid o1
  have X1 := Lib.hid x1
  clear o1 x1
  go_wp2
  go_ret2
  exact ⟨a, c, rfl, O1.out, X1.out⟩
set_option maxRecDepth 20000 in
set_option maxHeartbeats 4000000 in
theorem c_spec_l01Numbers (s : ByteArray) (w : World) {R : List Int} {b : Bool} (hv : rlR s = (R, b)) (hs : s.size ≤ 1048576) :
    Calls Tryd.prog 70 #[.string s] w (RetSB 2 R.length (ints R) b w) := by
  have HS := Lib.hid hs
  clear hs
  have XA := Lib.hid (Ext.alloc w (.cells #[] 2))
  have HO0 := Lib.hid (World.ownsRow_made (base := w.heap.size) (e := 2) (size := 1) w #[] 0 (Nat.le_refl _) (Nat.zero_le _) rfl)
  cases hn : noneB s
  · have n1 : (s.toList == [110, 111, 110, 101]) = false := hn
    have n2 : ¬ s.toList = [110, 111, 110, 101] := fun e => by rw [e] at n1; simp at n1
    have hp := pcs_pos 44 s
    have hpl := pcs_len 44 s
    obtain ⟨m, hm⟩ : ∃ m, (pcs 44 s).length = m := ⟨_, rfl⟩
    rw [hm] at hp hpl
    have HM := Lib.hid hm
    have hmI : (m : Int) ≤ 1048577 := by have := HS.out; omega
    have hlen : (cutL 44 s.data.toList).length = m := hm
    have HLEN := Lib.hid hlen
    by_cases hl : 64 < m
    · rw [rlR_long hn (by rw [hm]; exact hl)] at hv
      cases hv
      have hI : (64 : Int) < (m : Int) := by omega
      clear hn hm hp hpl hl hlen
      go_enter Tryd.func70, Tryd.ntmps70
      go_wp2_with fail
      refine (c_spec_l01Cut s 44 44 rfl _ HS.out).mono ?_; rintro e w1 ⟨pa, pc, rfl, o1, x1⟩
      rw [HLEN.out]
      have X1 := Lib.hid (XA.out.trans x1)
      clear x1 o1
      go_wp2
      go_ret2
      exact ⟨none, 0, rfl, Own.nil _ _ _ _, X1.out⟩
    · have hI : decide ((64 : Int) < (m : Int)) = false := decide_eq_false (by omega)
      obtain ⟨i0, hi, hz0, hz1, hz2⟩ := info_parts info_i64
      have HN := Lib.hid hn
      have HL := Lib.hid (show ¬ 64 < (pcs 44 s).length by rw [hm]; exact hl)
      have HV := Lib.hid hv
      have HM1 := Lib.hid (show 1 ≤ m from hp)
      have HM64 := Lib.hid (show m ≤ 64 by omega)
      obtain ⟨P, hP⟩ : ∃ P, pcs 44 s = P := ⟨_, rfl⟩
      have HP := Lib.hid hP
      have HGS := Lib.hid (show ∀ i, i < m → (getP P i).size ≤ 1048576 from fun i hi => by
        have := getP_size 44 s (i := i) (by rw [HM.out]; exact hi)
        rw [hP] at this
        have := HS.out
        omega)
      clear hn hm hp hpl hl hv hP hlen
      go_enter Tryd.func70, Tryd.ntmps70
      go_wp2_with fail
      refine (c_spec_l01Cut s 44 44 rfl _ HS.out).mono ?_; rintro e w1 ⟨pa, pc, rfl, o1, x1⟩
      rw [HLEN.out] at o1
      rw [HLEN.out]
      have X1 := Lib.hid (XA.out.trans x1)
      have HO1 := Lib.hid (ownsOnL HO0.out x1)
      obtain ⟨g, rfl, bvs, bq, hbk, hbc⟩ : ∃ g, pa = some ⟨g, 0, none⟩ ∧ ∃ vs q, w1.heap[g]? = some (.cells vs 9 q) ∧ ∀ w : World, w.heap[g]? = some (.cells vs 9 q) → ∀ i, i < m → w.cell? ⟨g, i, none⟩ = some (.string (getP P i)) := by
        rcases o1.2.2 with ⟨rfl, hc⟩ | ⟨g, f, rfl, _, _, hr, hf⟩
        · have := o1.2.1; have := HM1.out; omega
        · obtain ⟨cur, q1, q2, q3⟩ := id hr
          refine ⟨g, rfl, cur, _, q1, fun wx hx i hi => ?_⟩
          have hle := o1.2.1
          have h1 := hr.cell (i := i) (by omega)
          rw [World.cell?_of_block (w := w1) (w' := wx) (by rw [hx, q1]) , h1, ← hf i hi, ← HP.out]
          exact txts_get _ i (by rw [HLEN.out]; exact hi)
      have HB1 := Lib.hid hbk
      have HBC := Lib.hid hbc
      clear hbk hbc
      clear x1 o1 hmI
      go_wp2
      clear hI
      go_loopw [4, 6] (fun v i wr => ∃ k : Nat, k ≤ m ∧ i = .int .i64 (k : Int) ∧ wr.ownsRow w.heap.size 2 1 v k (ints (valsTo P k)) ∧ goodTo P k = true ∧ Ext w wr ∧ wr.heap[g]? = some (.cells bvs 9 bq)) (fun _ i _ => m - (intOf i).toNat)
      case atStart => exact ⟨0, Nat.zero_le _, rfl, HO1.out, rfl, X1.out, HB1.out⟩
      case round =>
        obtain ⟨k, hk, rfl, hown, hgood, hext, hblk⟩ := hrel
        have HBL := Lib.hid hblk
        have HO := Lib.hid hown
        have HG := Lib.hid hgood
        have HE := Lib.hid hext
        clear hown hgood hext hblk
        by_cases hlt : k < m
        · have hltI : (k : Int) < (m : Int) := by omega
          have hck := HBC.out _ HBL.out k hlt
          have hsz := HGS.out k hlt
          have hgs := goodTo_step P k
          have hvs := valsTo_snoc P k
          have hbad := fun hb => goodTo_bad P (k := k) hb m hlt
          obtain ⟨t, ht⟩ : ∃ t, getP P k = t := ⟨_, rfl⟩
          rw [ht] at hck hsz hgs hvs hbad
          have HSZ := Lib.hid hsz
          have HGST := Lib.hid hgs
          clear ht hsz hgs
          obtain ⟨y, hy⟩ : ∃ y, readV t = y := ⟨_, rfl⟩
          rw [hy] at hvs
          have HVS := Lib.hid hvs
          have HY := Lib.hid hy
          clear hy hvs
          cases hb : readB t
          · have HBD := Lib.hid (hbad hb)
            have HRB := Lib.hid hb
            clear hb hbad
            go_wp2_with fail
            refine (c_spec_l01Value t _ HSZ.out).mono ?_; rintro e w2 ⟨rfl, x2⟩
            rw [HY.out, HRB.out]
            have X2 := Lib.hid (HE.out.trans x2)
            clear x2
            have hq := HV.out
            rw [rlR_bad HN.out HL.out (by rw [HM.out, HP.out]; exact HBD.out)] at hq
            cases hq
            go_wp2
            go_ret2
            exact ⟨none, 0, rfl, Own.nil _ _ _ _, X2.out⟩
          · have HGN := Lib.hid (show goodTo P (k + 1) = true by rw [HGST.out, HG.out, hb]; rfl)
            have HRB := Lib.hid hb
            clear hb hbad
            go_wp2_with fail
            refine (c_spec_l01Value t _ HSZ.out).mono ?_; rintro e w2 ⟨rfl, x2⟩
            rw [HY.out, HRB.out]
            have HE2 := Lib.hid (HE.out.trans x2)
            have HO2 := Lib.hid (ownsOnL HO.out x2)
            have HES := Lib.hid (HE.out.trans x2).size
            have HBK2 := Lib.hid (show w2.heap[g]? = some (.cells bvs 9 bq) from (Below.block x2 g (Array.getElem?_eq_some_iff.1 HBL.out).1).trans HBL.out)
            clear x2
            go_wp2_with (at_builtin; refine wpList_append_own _ rfl _ _ 22 rfl w.heap.size 2 i0 (.int .i64 0) 1 8 Tryd.underlying22 hi hz0 hz1 hz2 rfl (by decide) _ _ _ rfl (HO2.out.alloc _) ⟨_, 0, none⟩ 1 1 [.int .i64 y] rfl rfl (one_cell_at _ _ _) (by intro u hu; simp at hu; subst hu; rfl) (by unfold maxLen; have := HM64.out; omega) (by have := HM64.out; omega) (by have := HES.out; first | (simp; omega) | omega) ?_; intro v' w3 hown' hgrow _; have HB3 := Lib.hid (keep_row (by decide) HBK2.out HO2.out hgrow); have HX3 := Lib.hid (show Ext w w3 from Below.grown (HE2.out.stepA _) hgrow (by have := HES.out; first | (simp; omega) | omega) (fun j hj => by have := (HO2.out.lt j hj).1; first | omega | (simp; omega))); have HOW := Lib.hid (show w3.ownsRow w.heap.size 2 1 v' (k + 1) (ints (valsTo P (k + 1))) by rw [HVS.out]; exact hown'); clear hown' hgrow)
            have HW1 := Lib.hid (show wrap64 ((k : Int) + 1) = (k : Int) + 1 by have := HM64.out; unfold wrap64; omega)
            rw [HW1.out]
            go_roundw
            case rel => exact ⟨k + 1, by omega, by first | rfl | go_num, HOW.out, HGN.out, HX3.out, HB3.out⟩
            case measure => first | (simp [intOf]; done) | (simp [intOf]; omega)
        · obtain rfl : k = m := by omega
          have hq := HV.out
          rw [rlR_yes HN.out HL.out (by rw [HM.out, HP.out]; exact HG.out), HM.out, HP.out] at hq
          cases hq
          obtain ⟨va, vc, rfl, hol⟩ := Own.of_row (e := 0) HO.out
          have HOL := Lib.hid hol
          clear hol
          go_wp2
          go_ret2
          rw [valsTo_length]
          exact ⟨va, vc, rfl, HOL.out, HE.out⟩
  · rw [rlR_none hn] at hv
    cases hv
    have n1 : (s.toList == [110, 111, 110, 101]) = true := hn
    have n2 : s.toList = [110, 111, 110, 101] := by simpa using n1
    clear hn n1
    go_enter Tryd.func70, Tryd.ntmps70
    go_wp2
    go_ret2
    obtain ⟨va, vc, hva, hol⟩ := Own.of_row (e := 0) HO0.out
    cases hva
    exact ⟨_, _, rfl, hol, XA.out⟩
theorem c_spec_ReadList (s : ByteArray) (w : World) {R : List Int} {b : Bool} (hv : rlR s = (R, b)) (hs : s.size ≤ 1048576) :
    Calls Tryd.prog 36 #[.string s] w (RetSB 2 R.length (ints R) b w) := by
  have HV := Lib.hid hv
  clear hv
  go_enter Tryd.func36, Tryd.ntmps36
  go_wp2_with fail
  refine (c_spec_l01Numbers s _ HV.out hs).mono ?_; rintro e w1 ⟨a, c, rfl, o1, x1⟩
  have O1 := Lib.hid o1
  have X1 := Lib.hid x1
  clear o1 x1
  go_wp2
  go_ret2
  exact ⟨a, c, rfl, O1.out, X1.out⟩
end Go.Proofs.YtgejfeedcphfkaaDoor
