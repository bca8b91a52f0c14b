/- SignSketch: what both sides answer. -/
import Derived.Test.YtlfdljakcbfkaaaVsg
import Derived.Test.YtlfdljakcbfkaaaRow
import Derived.Deep.RegionHeld3
import Derived.Deep.DeepCutAuto
import Derived.Deep.LoopGhost
namespace Go.Proofs.Ytlfdljakcbfkaaa
open Go.ChangeShapes Go.WideShapes Go.ChangeAt Go.RowKit Go.Proofs.Ytlfdljakcbfkaaa.Flo
set_option linter.unusedVariables false
attribute [local go_sem] run_fl_add run_fl_sub run_fl_mul run_fl_quo run_conv run_store_float run_store_complex
theorem zall_at {p : Int → Bool} {ss : List Int} (h : ss.all p = true) {k : Nat} (hk : k < ss.length) : p (ss[k]?.getD 0) = true := by
  rw [List.all_eq_true] at h
  rw [List.getElem?_eq_getElem hk]
  exact h _ (List.getElem_mem hk)
theorem zall_bad {p : Int → Bool} {ss : List Int} {k : Nat} (hk : k < ss.length) (h : p (ss[k]?.getD 0) = false) : ss.all p = false := by
  cases e : ss.all p
  · rfl
  · rw [zall_at e hk] at h; cases h
theorem zall_mk {p : Int → Bool} {ss : List Int} (h : ∀ k, k < ss.length → p (ss[k]?.getD 0) = true) : ss.all p = true := by
  rw [List.all_eq_true]
  intro x hx
  obtain ⟨i, hi, rfl⟩ := List.mem_iff_getElem.1 hx
  have := h i hi
  rw [List.getElem?_eq_getElem hi] at this
  exact this
theorem tell2 (v : Option Nat) : (tellV v).2 = finV v := by
  cases h : finV v
  · rw [tellV_no h]
  · rw [tellV_yes h]
theorem sr_true {zs : List Nat} {s : Int} {pv : Option Nat} (h : signRowR zs s = (pv, true)) : pv = srowV zs s ∧ finV (srowV zs s) = true := by
  unfold signRowR at h
  split at h
  · cases hf : finV (srowV zs s)
    · rw [tellV_no hf] at h; cases h
    · rw [tellV_yes hf] at h; cases h; exact ⟨rfl, rfl⟩
  · cases h
def saltsB (ss : List Int) : Bool := decide (1 ≤ ss.length) && (decide (ss.length ≤ 32) && keysB ss)
def saltsN (ss : List Int) : Bool := decide (1 ≤ ss.length) && decide (ss.length ≤ 32)
/-- each row of signs is told -/
def rowsB (zs : List Nat) (ss : List Int) : Bool := ss.all fun s => (signRowR zs s).2
def skL (zs : List Nat) (ss : List Int) : List Nat := ss.map fun s => (srowV zs s).getD 0
def skR (zs : List Nat) (ss : List Int) : List Nat × Bool := if saltsN ss && rowsB zs ss then (skL zs ss, true) else ([], false)
theorem skR_no {zs : List Nat} {ss : List Int} (h : (saltsN ss && rowsB zs ss) = false) : skR zs ss = ([], false) := if_neg (by rw [h]; decide)
theorem skR_yes {zs : List Nat} {ss : List Int} (h : saltsN ss = true) (h2 : rowsB zs ss = true) : skR zs ss = (skL zs ss, true) := if_pos (by rw [h, h2]; rfl)
theorem skL_length (zs : List Nat) (ss : List Int) : (skL zs ss).length = ss.length := by simp [skL]
theorem skL_get (zs : List Nat) (ss : List Int) (k : Nat) (h : k < ss.length) : (skL zs ss)[k]?.getD 0 = (srowV zs (ss[k]?.getD 0)).getD 0 := by simp [skL, h]
theorem skR_le {zs : List Nat} {ss : List Int} {rz : List Nat} {rb : Bool} (h : skR zs ss = (rz, rb)) : rz.length ≤ 1048576 := by
  unfold skR at h
  split at h
  · rename_i hs
    cases h
    rw [skL_length]
    unfold saltsN at hs
    simp only [Bool.and_eq_true, decide_eq_true_eq] at hs
    omega
  · cases h; simp
theorem rowsB_vec {zs : List Nat} {ss : List Int} (h : vecB zs = false) (h1 : 1 ≤ ss.length) : rowsB zs ss = false :=
  zall_bad (k := 0) h1 (by show (signRowR zs _).2 = false; rw [signRowR_1 h])
theorem rowsB_key {zs : List Nat} {ss : List Int} (h : keysB ss = false) (h1 : ss.length ≤ 32) : rowsB zs ss = false := by
  cases e : rowsB zs ss
  · rfl
  · exfalso
    have hk : ss.all keyB = true := zall_mk fun k hk => by
      have h2 : (signRowR zs (ss[k]?.getD 0)).2 = true := zall_at e hk
      cases h3 : keyB (ss[k]?.getD 0)
      · rw [signRowR_2 h3] at h2; cases h2
      · rfl
    rw [keysB_short (by omega), hk] at h
    cases h
theorem rowsB_fin {zs : List Nat} {ss : List Int} (h : vecB zs = true) (h2 : keysB ss = true) : rowsB zs ss = ss.all fun s => finV (srowV zs s) := by
  cases e : ss.all fun s => finV (srowV zs s)
  · cases e2 : rowsB zs ss
    · rfl
    · exfalso
      have : (ss.all fun s => finV (srowV zs s)) = true := zall_mk fun k hk => by
        have h3 : (signRowR zs (ss[k]?.getD 0)).2 = true := zall_at e2 hk
        rw [signRowR_3 h (keysB_at h2 hk), tell2] at h3
        exact h3
      rw [this] at e; cases e
  · exact zall_mk fun k hk => by
      show (signRowR zs (ss[k]?.getD 0)).2 = true
      rw [signRowR_3 h (keysB_at h2 hk), tell2]
      exact zall_at e hk
/-- the bits that a side has told so far -/
structure SkAt (zs : List Nat) (ss : List Int) (bs : List Nat) (k : Nat) : Prop where
  len : bs.length = k
  val : ∀ j, j < k → fv .f32 (bs[j]?.getD 0) = srowV zs (ss[j]?.getD 0)
theorem SkAt.start (zs : List Nat) (ss : List Int) : SkAt zs ss [] 0 := ⟨rfl, fun j hj => absurd hj (Nat.not_lt_zero _)⟩
theorem SkAt.step {zs : List Nat} {ss : List Int} {bs : List Nat} {k r : Nat} (h : SkAt zs ss bs k) (hr : fv .f32 r = srowV zs (ss[k]?.getD 0)) : SkAt zs ss (bs ++ [r]) (k + 1) := by
  refine ⟨by rw [List.length_append, h.len]; rfl, fun j hj => ?_⟩
  by_cases e : j = k
  · subst e
    rw [List.getElem?_append_right (by rw [h.len]; exact Nat.le_refl _), h.len, Nat.sub_self]
    exact hr
  · rw [List.getElem?_append_left (by rw [h.len]; omega)]
    exact h.val j (by omega)
theorem SkAt.fin {zs : List Nat} {ss : List Int} {bs : List Nat} (h : SkAt zs ss bs ss.length) : finB bs = ss.all fun s => finV (srowV zs s) := by
  cases e : ss.all fun s => finV (srowV zs s)
  · cases e2 : finB bs
    · rfl
    · exfalso
      have : (ss.all fun s => finV (srowV zs s)) = true := zall_mk fun k hk => by
        show finV (srowV zs (ss[k]?.getD 0)) = true
        rw [← h.val k hk, finV_fv]
        exact finB_at e2 (by rw [h.len]; exact hk)
      rw [this] at e; cases e
  · refine finB_mk fun k hk => ?_
    rw [h.len] at hk
    rw [← finV_fv, h.val k hk]
    exact zall_at (p := fun s => finV (srowV zs s)) e hk
theorem SkAt.eq {zs : List Nat} {ss : List Int} {bs : List Nat} (h : SkAt zs ss bs ss.length) (hf : finB bs = true) : bs = skL zs ss := by
  apply List.ext_getElem?
  intro k
  by_cases hk : k < ss.length
  · have h1 := h.val k hk
    have h2 := skL_get zs ss k hk
    rw [← h1, fin_fvS (finB_at hf (by rw [h.len]; exact hk))] at h2
    have k1 : k < bs.length := by rw [h.len]; exact hk
    have k2 : k < (skL zs ss).length := by rw [skL_length]; exact hk
    rw [List.getElem?_eq_getElem k1, List.getElem?_eq_getElem k2] at h2
    rw [List.getElem?_eq_getElem k1, List.getElem?_eq_getElem k2]
    exact congrArg some (by simpa using h2.symm)
  · rw [List.getElem?_eq_none (by rw [h.len]; omega), List.getElem?_eq_none (by rw [skL_length]; omega)]
theorem flos_snoc (bs : List Nat) (r : Nat) : flos (bs ++ [r]) = flos bs ++ [.float .f32 r] := by simp [flos]
theorem ownsRow_onK {w w' : World} {base : Nat} {t : TypeId} {v : Value} {n : Nat} {xs : List Value} (h : w.ownsRow base t 1 v n xs) (e : Ext w w') : w'.ownsRow base t 1 v n xs := by
  refine ⟨h.1, ?_⟩
  rcases h.2 with h0 | ⟨g, cap, cur, rfl, hb, hg, hn, hm, hs, ht⟩
  · exact .inl h0
  · exact .inr ⟨g, cap, cur, rfl, hb, by rw [Below.block e g (Array.getElem?_eq_some_iff.1 hg).1]; exact hg, hn, hm, hs, ht⟩
theorem rowIs_onK {w w' : World} {g n : Nat} {t : TypeId} {f : Nat → Value} (h : w.rowIs g t n f) (e : Ext w w') : w'.rowIs g t n f := h.of_block (Below.block e _ h.lt)
theorem c_spec_l07Salts (a : Option Addr) (n cap : Nat) (ss : List Int) (w : World) {r : Bool} (hr : saltsB ss = r) (hm : n ≤ maxLen) (h : Reads w a n (ints ss)) :
    Calls Try.prog 76 #[.slice a n cap] w fun e w' => e = .returned (.bool r) ∧ w = w' := by
  have hz := h.int.1
  have H := Lib.hid h
  have HM := Lib.hid hm
  unfold maxLen at hm
  by_cases h1 : n < 1
  · have HR := Lib.hid (show r = false by rw [← hr]; unfold saltsB; rw [decide_eq_false (by omega)]; rfl)
    have g1 : ¬ (1 : Int) ≤ (n : Int) := by omega
    obtain rfl : n = 0 := by omega
    clear hr h hz h1
    go_enter Try.func76, Try.ntmps76
    go_wp2
    go_ret
    exact ⟨retB (by rw [HR.out]), rfl⟩
  by_cases h2 : 32 < n
  · have HR := Lib.hid (show r = false by rw [← hr]; unfold saltsB; rw [decide_eq_false (show ¬ ss.length ≤ 32 by omega)]; simp)
    have g1 : (1 : Int) ≤ (n : Int) := by omega
    have g2 : (32 : Int) < (n : Int) := by omega
    clear hr h hz h1 h2
    go_enter Try.func76, Try.ntmps76
    go_wp2
    go_ret
    exact ⟨retB (by first | (rw [HR.out]; done) | (rw [HR.out]; rfl) | (rw [HR.out]; first | (simp; done) | (simp; omega))), rfl⟩
  · have HR := Lib.hid (show keysB ss = r by rw [← hr]; unfold saltsB; rw [decide_eq_true (show 1 ≤ ss.length by omega), decide_eq_true (show ss.length ≤ 32 by omega)]; rfl)
    have g1 : (1 : Int) ≤ (n : Int) := by omega
    have g2 : (n : Int) ≤ 32 := by omega
    clear hr h hz h1 h2
    go_enter Try.func76, Try.ntmps76
    go_wp2_with (go_at_call 109; refine (c_spec_l02Keys_of _ _ _ ss _ HR.out HM.out H.out).mono ?_; rintro e w' ⟨rfl, rfl⟩)
    go_ret
    exact ⟨rfl, rfl⟩
set_option maxHeartbeats 4000000 in
theorem c_impl_tellRows (a : Option Addr) (n cap : Nat) (zs : List Nat) (a' : Option Addr) (m cap' : Nat) (ss : List Int) (w : World) {rz : List Nat} {rb : Bool} (hv : (if rowsB zs ss then (skL zs ss, true) else ([], false)) = (rz, rb)) (hm : n ≤ maxLen) (h : Reads w a n (flos zs)) (hm' : m ≤ 1048576) (h' : Reads w a' m (ints ss)) (hb : ∀ z ∈ zs, z < 4294967296) :
    Calls Try.prog 78 #[.slice a n cap, .slice a' m cap', .func (.func 25) #[] #[]] w (RetSB 26 rz.length (flos rz) rb w) := by
  obtain ⟨hz', hr'⟩ := h'.int
  have hmk := run_make_row' (P := Try.prog) 22 26 (.float .f32 0) 4 Try.underlying22 info_f32 rfl .i64 .i64 m (by omega) (by omega)
  have H := Lib.hid h
  have HM := Lib.hid hm
  have HB := Lib.hid hb
  have HZ := Lib.hid hz'
  have HC := Lib.hid hr'
  have HV := Lib.hid hv
  clear h h' hm hb hz' hr' hv
  go_enter Try.func78, Try.ntmps78
  go_wp2
  go_loopw [18] (fun i wr => ∃ k : Nat, k ≤ m ∧ i = .int .i64 k ∧ wr.rowIs w.heap.size 26 m (fillFG (skL zs ss) k) ∧ Ext w wr ∧ w.heap.size < wr.heap.size ∧ ∀ j, j < k → (signRowR zs (ss[j]?.getD 0)).2 = true) (fun i _ => m - (intOf i).toNat)
  case atStart => exact ⟨0, Nat.zero_le _, rfl, (World.rowIs_made _ _ _ _).congr fun i _ => rfl, Ext.alloc _ _, by simp, fun j hj => absurd hj (Nat.not_lt_zero _)⟩
  case round =>
    obtain ⟨k, hk, rfl, hrow, hext, hsize, hall⟩ := hrel
    have HRW := Lib.hid hrow
    have HE := Lib.hid hext
    have HA := Lib.hid hall
    clear hrow hext hall
    by_cases hlt : k < m
    · rcases HC.out with h0 | ⟨b, off, rfl, hc⟩
      · omega
      have hcell : wr.cell? ⟨b, off + k, none⟩ = some (.int .i64 (ss[k]?.getD 0)) := by
        have h1 := hc k hlt
        rw [HE.out.cell b _ (World.block_lt_of_cell? w ⟨b, off + k, none⟩ h1)]; exact h1
      obtain ⟨s, hs⟩ : ∃ s, ss[k]?.getD 0 = s := ⟨_, rfl⟩
      have HS := Lib.hid hs
      rw [hs] at hcell
      clear hc hs
      obtain ⟨⟨pv, pb⟩, hp⟩ : ∃ p, signRowR zs s = p := ⟨_, rfl⟩
      have HP := Lib.hid hp
      clear hp
      cases pb
      · have HN := Lib.hid (show rowsB zs ss = false from zall_bad (k := k) (by rw [HZ.out]; exact hlt) (by show (signRowR zs _).2 = false; rw [HS.out, HP.out]))
        have hv2 := HV.out
        rw [HN.out, if_neg (by decide)] at hv2
        simp only [Prod.mk.injEq] at hv2
        obtain ⟨rfl, rfl⟩ := hv2
        go_wp2_with fail
        refine (c_impl_SignRow_q a n cap zs s _ HP.out HM.out (H.out.on HE.out) HB.out).mono ?_; rintro e w2 ⟨r, rfl, hr, hlt2, x2⟩
        have X2 := Lib.hid x2
        clear hr hlt2 x2
        go_wp2
        go_ret2
        exact ⟨none, 0, rfl, Own.nil _ _ _ _, HE.out.trans X2.out⟩
      · go_wp2_with fail
        refine (c_impl_SignRow_q a n cap zs s _ HP.out HM.out (H.out.on HE.out) HB.out).mono ?_; rintro e w2 ⟨r, rfl, hr, hlt2, x2⟩
        have X2 := Lib.hid x2
        have HR := Lib.hid (show r = (skL zs ss)[k]?.getD 0 by
          have h1 := sr_true HP.out
          rw [skL_get zs ss k (by rw [HZ.out]; exact hlt), HS.out]
          obtain ⟨b', e1, e2⟩ := finV_some h1.2
          have h2 : fv .f32 r = some b' := by rw [← e1, ← h1.1]; exact hr
          rw [fv_isS h2, e1]; rfl)
        have hrow2 := rowIs_onK HRW.out X2.out
        have hcur := hrow2.cell hlt
        have hfro := hrow2.frozen k
        have HST := Lib.hid (show (w2.setCell ⟨w.heap.size, k, none⟩ (.float .f32 r)).rowIs w.heap.size 26 m (fillFG (skL zs ss) (k + 1)) by
          have := fillFG_step (skL zs ss) k hrow2
          rw [← HR.out] at this
          exact this)
        have HE2 := Lib.hid (show Ext w (w2.setCell ⟨w.heap.size, k, none⟩ (.float .f32 r)) from Below.setCell (HE.out.trans X2.out) (Nat.le_refl _) _)
        have HSZ := Lib.hid (show w.heap.size < (w2.setCell ⟨w.heap.size, k, none⟩ (.float .f32 r)).heap.size by have := X2.out.size; simp [World.setCell]; omega)
        clear hr hlt2 x2 hrow2
        go_wp2
        go_roundw
        case rel => exact ⟨k + 1, by omega, by go_num, HST.out, HE2.out, HSZ.out, fun j hj => (by
          by_cases e : j = k
          · subst e; rw [HS.out, HP.out]
          · exact HA.out j (by omega))⟩
        case measure => simp [intOf]; omega
    · obtain rfl : k = m := by omega
      have HY := Lib.hid (show rowsB zs ss = true from zall_mk (by rw [HZ.out]; exact HA.out))
      have hv2 := HV.out
      rw [HY.out, if_pos rfl] at hv2
      simp only [Prod.mk.injEq] at hv2
      obtain ⟨rfl, rfl⟩ := hv2
      have HL := Lib.hid (show (skL zs ss).length = k by rw [skL_length, HZ.out])
      clear hsize hlt
      go_wp2
      go_ret2
      refine ⟨some ⟨w.heap.size, 0, none⟩, k, by first | (rw [HL.out]; done) | (rw [HL.out]; rfl), ?_, HE.out⟩
      rw [HL.out]
      exact own_made (by rw [flos_length]; exact HL.out) (Nat.le_refl _) HRW.out (fun i hi => by rw [flos_get _ i (by rw [HL.out]; exact hi)]; unfold fillFG; rw [if_pos hi])
set_option maxHeartbeats 2000000 in
theorem c_impl_SignSketch (a : Option Addr) (n cap : Nat) (zs : List Nat) (a' : Option Addr) (m cap' : Nat) (ss : List Int) (w : World) {rz : List Nat} {rb : Bool} (hv : skR zs ss = (rz, rb)) (hm : n ≤ 1048576) (h : Reads w a n (flos zs)) (hm' : m ≤ 1048576) (h' : Reads w a' m (ints ss)) (hb : ∀ z ∈ zs, z < 4294967296) :
    Calls Try.prog 28 #[.slice a n cap, .slice a' m cap'] w (RetSB 26 rz.length (flos rz) rb w) := by
  have hz := h'.int.1
  by_cases h1 : m < 1
  · rw [skR_no (by unfold saltsN; rw [decide_eq_false (by omega)]; rfl)] at hv
    simp only [Prod.mk.injEq] at hv
    obtain ⟨rfl, rfl⟩ := hv
    have g1 : (m : Int) < 1 := by omega
    clear h h' hb hz hm
    go_enter Try.func28, Try.ntmps28
    go_wp2
    go_ret2
    exact RetSB.nil _ _
  by_cases h2 : 32 < m
  · rw [skR_no (by unfold saltsN; rw [decide_eq_false (show ¬ ss.length ≤ 32 by omega), Bool.and_false]; rfl)] at hv
    simp only [Prod.mk.injEq] at hv
    obtain ⟨rfl, rfl⟩ := hv
    have g1 : ¬ (m : Int) < 1 := by omega
    have g2 : (32 : Int) < (m : Int) := by omega
    clear h h' hb hz hm h1 h2
    go_enter Try.func28, Try.ntmps28
    go_wp2
    go_ret2
    exact RetSB.nil _ _
  · have HV := Lib.hid (show (if rowsB zs ss then (skL zs ss, true) else ([], false)) = (rz, rb) by
      rw [← hv]
      have hs : saltsN ss = true := by unfold saltsN; rw [decide_eq_true (by omega), decide_eq_true (by omega)]; rfl
      cases hr : rowsB zs ss
      · rw [skR_no (by rw [hr, Bool.and_false])]; rfl
      · rw [skR_yes hs hr]; rfl)
    have g1 : ¬ (m : Int) < 1 := by omega
    have g2 : (m : Int) ≤ 32 := by omega
    have H := Lib.hid h
    have H' := Lib.hid h'
    have HM := Lib.hid (maxLen_of hm)
    have HM' := Lib.hid hm'
    have HB := Lib.hid hb
    clear h h' hb hz hm hm' hv h1 h2
    go_enter Try.func28, Try.ntmps28
    go_wp2_with fail
    refine (c_impl_tellRows a n cap zs a' m cap' ss _ HV.out HM.out H.out HM'.out H'.out HB.out).mono ?_; rintro e w2 ⟨a2, c2, rfl, o2, x2⟩
    have O2 := Lib.hid o2
    have X2 := Lib.hid x2
    clear o2 x2
    go_wp2
    go_ret2
    exact ⟨_, _, rfl, O2.out, X2.out⟩
set_option maxHeartbeats 4000000 in
theorem c_spec_SignSketch (a : Option Addr) (n cap : Nat) (zs : List Nat) (a' : Option Addr) (m cap' : Nat) (ss : List Int) (w : World) {rz : List Nat} {rb : Bool} (hv : skR zs ss = (rz, rb)) (hm : n ≤ 1048576) (h : Reads w a n (flos zs)) (hm' : m ≤ 1048576) (h' : Reads w a' m (ints ss)) (hb : ∀ z ∈ zs, z < 4294967296) :
    Calls Try.prog 26 #[.slice a n cap, .slice a' m cap'] w (RetSB 26 rz.length (flos rz) rb w) := by
  obtain ⟨hz', hr'⟩ := h'.int
  have hz := h.flo.1
  obtain ⟨i0, hi, hi0, hi1, hi2⟩ := info_parts info_f32
  have H := Lib.hid h
  have H' := Lib.hid h'
  have HM := Lib.hid (maxLen_of hm)
  have HM' := Lib.hid (maxLen_of hm')
  have HZ := Lib.hid hz'
  have HC := Lib.hid hr'
  cases hx : vecB zs
  · rw [skR_no (by
      unfold saltsN
      by_cases h1 : 1 ≤ ss.length
      · rw [rowsB_vec hx h1, Bool.and_false]
      · rw [decide_eq_false h1]; rfl)] at hv
    simp only [Prod.mk.injEq] at hv
    obtain ⟨rfl, rfl⟩ := hv
    have HX := Lib.hid hx
    clear h h' hb hz hm hm' hx hr' hz'
    go_enter Try.func26, Try.ntmps26
    go_wp2_with fail
    refine (c_spec_l07Vector _ _ _ zs _ HX.out HM.out H.out).mono ?_; rintro e w' ⟨rfl, q2, rfl⟩
    go_wp2
    go_ret2
    exact ⟨none, 0, rfl, Own.nil _ _ _ _, Ext.drewN _ _⟩
  have HX := Lib.hid hx
  have HN := Lib.hid (show n ≤ 256 by have := (vec_ok hx).hi; omega)
  cases hs : saltsB ss
  · rw [skR_no (by
      unfold saltsN
      by_cases h1 : 1 ≤ ss.length
      · by_cases h2 : ss.length ≤ 32
        · unfold saltsB at hs
          rw [decide_eq_true h1, decide_eq_true h2] at hs
          rw [rowsB_key (by simpa using hs) h2, Bool.and_false]
        · rw [decide_eq_false h2, Bool.and_false]; rfl
      · rw [decide_eq_false h1]; rfl)] at hv
    simp only [Prod.mk.injEq] at hv
    obtain ⟨rfl, rfl⟩ := hv
    have HS := Lib.hid hs
    clear h h' hb hz hm hm' hx hr' hz' hs
    go_enter Try.func26, Try.ntmps26
    go_wp2_with fail
    refine (c_spec_l07Vector _ _ _ zs _ HX.out HM.out H.out).mono ?_; rintro e w' ⟨rfl, q2, rfl⟩
    go_wp2_with fail
    refine (c_spec_l07Salts _ _ _ ss _ HS.out HM'.out (H'.out.on (Ext.drewN _ _))).mono ?_; rintro e w' ⟨rfl, rfl⟩
    go_wp2
    go_ret2
    exact ⟨none, 0, rfl, Own.nil _ _ _ _, Ext.drewN _ _⟩
  have HS := Lib.hid hs
  have HSN := Lib.hid (show saltsN ss = true ∧ keysB ss = true ∧ ss.length ≤ 32 by
    unfold saltsB at hs
    simp only [Bool.and_eq_true, decide_eq_true_eq] at hs
    exact ⟨by unfold saltsN; rw [decide_eq_true hs.1, decide_eq_true hs.2.1]; rfl, hs.2.2, hs.2.1⟩)
  have HRF := Lib.hid (rowsB_fin hx HSN.out.2.1)
  have hm32 : m ≤ 32 := by have := HSN.out.2.2; omega
  have HV := Lib.hid hv
  clear h h' hb hz hm hm' hx hr' hz' hs hv
  go_enter Try.func26, Try.ntmps26
  go_wp2_with fail
  refine (c_spec_l07Vector _ _ _ zs _ HX.out HM.out H.out).mono ?_; rintro e w' ⟨rfl, q2, rfl⟩
  go_wp2_with fail
  refine (c_spec_l07Salts _ _ _ ss _ HS.out HM'.out (H'.out.on (Ext.drewN _ _))).mono ?_; rintro e w' ⟨rfl, rfl⟩
  obtain ⟨u, hu⟩ : ∃ u, w.drewN q2 = u := ⟨_, rfl⟩
  have XU := Lib.hid (show Ext w u by rw [← hu]; exact Ext.drewN _ _)
  rw [hu]
  clear hu
  go_wp2_with fail
  go_loopw [6, 19] (fun v i wr => ∃ (k : Nat) (bs : List Nat), k ≤ m ∧ i = .int .i64 k ∧ SkAt zs ss bs k ∧ wr.ownsRow u.heap.size 26 1 v k (flos bs) ∧ Ext u wr) (fun _ i _ => m - (intOf i).toNat)
  case atStart => exact ⟨0, [], Nat.zero_le _, rfl, SkAt.start _ _, World.ownsRow_made _ _ _ (Nat.le_refl _) (Nat.zero_le _) rfl, Ext.alloc _ _⟩
  case round =>
    obtain ⟨k, bs, hk, rfl, hat, hown, hext⟩ := hrel
    have HAT := Lib.hid hat
    have HO := Lib.hid hown
    have HE := Lib.hid hext
    clear hat hown hext
    by_cases hlt : k < m
    · rcases HC.out with h0 | ⟨b, off, rfl, hc⟩
      · omega
      have hcell : wr.cell? ⟨b, off + k, none⟩ = some (.int .i64 (ss[k]?.getD 0)) := by
        have h1 := hc k hlt
        rw [(XU.out.trans HE.out).cell b _ (World.block_lt_of_cell? w ⟨b, off + k, none⟩ h1)]; exact h1
      obtain ⟨s, hs⟩ : ∃ s, ss[k]?.getD 0 = s := ⟨_, rfl⟩
      have HSS := Lib.hid hs
      have HK := Lib.hid (show keyB s = true by rw [← hs]; exact keysB_at HSN.out.2.1 (by rw [HZ.out]; exact hlt))
      rw [hs] at hcell
      clear hc hs
      go_wp2_with fail
      refine (c_spec_l07Row a n cap zs s _ rfl HN.out HK.out (H.out.on (XU.out.trans HE.out))).mono ?_; rintro e w3 ⟨r, rfl, hr, hr32, q3, hq3⟩
      have X3 := Lib.hid (show Ext wr w3 by rw [hq3]; exact Ext.drewN _ _)
      have HR := Lib.hid (show fv .f32 r = srowV zs (ss[k]?.getD 0) by rw [HSS.out]; exact hr)
      have HO3 := Lib.hid (ownsRow_onK HO.out X3.out)
      have HE3 := Lib.hid (HE.out.trans X3.out)
      clear hq3 hr hr32
      go_wp2_with (at_builtin; refine wpList_append_own _ rfl _ _ 22 rfl u.heap.size 26 i0 (.float .f32 0) 1 4 Try.underlying22 hi hi0 hi1 hi2 rfl (by decide) _ _ _ rfl (HO3.out.alloc _) ⟨_, 0, none⟩ 1 1 [.float .f32 r] rfl rfl ?c1 ?c2 ?c3 ?c4 ?c5 ?_)
      case c1 => exact one_cell_at _ _ _
      case c2 => intro u hu; simp at hu; subst hu; rfl
      case c3 => unfold maxLen; omega
      case c4 => omega
      case c5 => have := HE3.out.size; simp; omega
      intro v' w4 hown' hgrow _
      have HO' := Lib.hid hown'
      have HE' := Lib.hid (app_step HE3.out HO3.out hgrow)
      clear hown' hgrow
      go_wp2
      go_roundw
      case rel => exact ⟨k + 1, bs ++ [r], by omega, by go_num, HAT.out.step HR.out, by rw [flos_snoc]; exact HO'.out, HE'.out⟩
      case measure => simp [intOf]; omega
    · obtain rfl : k = m := by omega
      have hat := HAT.out
      rw [← HZ.out] at hat
      have HFB := Lib.hid hat.fin
      have HEQ := Lib.hid hat.eq
      have HLE := Lib.hid hat.len
      obtain ⟨a', c', hv', ho⟩ := Own.of_row (e := 0) HO.out
      subst hv'
      have HO' := Lib.hid ho
      clear ho hlt hat
      cases hf : finB bs
      · have HF := Lib.hid hf
        have hv2 := HV.out
        rw [skR_no (by rw [HRF.out, ← HFB.out, hf, Bool.and_false])] at hv2
        simp only [Prod.mk.injEq] at hv2
        obtain ⟨rfl, rfl⟩ := hv2
        clear hf
        go_wp2_with fail
        refine (c_spec_l02Finite _ _ _ bs _ HF.out (by unfold maxLen; omega) HO'.out.reads).mono ?_; rintro e w' ⟨rfl, q5, rfl⟩
        go_wp2
        go_ret2
        exact ⟨none, 0, rfl, Own.nil _ _ _ _, (XU.out.trans HE.out).trans (Ext.drewN _ _)⟩
      · have HF := Lib.hid hf
        have hv2 := HV.out
        rw [skR_yes HSN.out.1 (by rw [HRF.out, ← HFB.out]; exact hf)] at hv2
        simp only [Prod.mk.injEq] at hv2
        obtain ⟨rfl, rfl⟩ := hv2
        obtain rfl := HEQ.out hf
        have HL := Lib.hid (show (skL zs ss).length = k by rw [skL_length, HZ.out])
        clear hf
        go_wp2_with fail
        refine (c_spec_l02Finite _ _ _ (skL zs ss) _ HF.out (by unfold maxLen; omega) HO'.out.reads).mono ?_; rintro e w' ⟨rfl, q5, rfl⟩
        go_wp2
        go_ret2
        refine ⟨_, _, by first | (rw [HL.out]; done) | (rw [HL.out]; rfl), ?_, (XU.out.trans HE.out).trans (Ext.drewN _ _)⟩
        rw [HL.out]
        exact (HO'.out.on (Ext.drewN _ _)).wide XU.out.size (Nat.le_refl _)
end Go.Proofs.Ytlfdljakcbfkaaa
