/- EvenCuts: both sides. -/
import Derived.Test.YtmgkbgdbahijnaaFar
namespace Go.Proofs.Ytmgkbgdbahijnaa
open Go.ChangeShapes Go.WideShapes Go.ChangeAt Go.RowKit Go.Proofs.Ytmgkbgdbahijnaa.Flo
set_option linter.unusedVariables false
/-- cuts at even places -/
def evenL (n p : Nat) : List Int := (List.range (p - 1)).map fun i => (((i + 1) * n / p : Nat) : Int)
theorem evenL_length (n p : Nat) : (evenL n p).length = p - 1 := by simp [evenL]
theorem evenL_get (n p i : Nat) (h : i < p - 1) : (evenL n p)[i]?.getD 0 = (((i + 1) * n / p : Nat) : Int) := by simp [evenL, h]
theorem evenL_take (n p k : Nat) (h : k < p - 1) : (evenL n p).take (k + 1) = (evenL n p).take k ++ [(((k + 1) * n / p : Nat) : Int)] := by
  rw [List.take_succ_eq_append_getElem (by rw [evenL_length]; exact h)]
  congr 2
  simp [evenL]
def evenB (zs : List Nat) (p : Int) : Bool := listB zs && decide (1 ≤ p ∧ p ≤ (zs.length : Int))
def evenR (zs : List Nat) (p : Int) : List Int × Bool := if evenB zs p then (evenL zs.length p.toNat, true) else ([], false)
theorem evenR_no {zs : List Nat} {p : Int} (h : evenB zs p = false) : evenR zs p = ([], false) := by unfold evenR; rw [h]; rfl
theorem evenR_y {zs : List Nat} {p : Nat} (h : evenB zs p = true) : evenR zs p = (evenL zs.length p, true) := by unfold evenR; rw [h]; rfl
theorem evenB_1 {zs : List Nat} {p : Int} (h : listB zs = false) : evenB zs p = false := by unfold evenB; rw [h]; rfl
theorem evenB_2 {zs : List Nat} {p : Int} (h : ¬ (1 ≤ p ∧ p ≤ (zs.length : Int))) : evenB zs p = false := by unfold evenB; rw [decide_eq_false h]; simp
theorem evenB_y {zs : List Nat} {p : Int} (h : listB zs = true) (h' : 1 ≤ p ∧ p ≤ (zs.length : Int)) : evenB zs p = true := by unfold evenB; rw [h, decide_eq_true h']; rfl
theorem evenR_le {zs : List Nat} {p : Int} {rz : List Int} {rb : Bool} (h : evenR zs p = (rz, rb)) : rz.length ≤ 1048576 := by
  unfold evenR at h
  split at h
  · rename_i hb
    cases h
    rw [evenL_length]
    unfold evenB at hb
    simp only [Bool.and_eq_true, decide_eq_true_eq] at hb
    have := (list_ok hb.1).hi
    omega
  · cases h; exact Nat.zero_le _
/-- a row whose first k cells are told -/
def evenF (n p k : Nat) (i : Nat) : Value := if i < k then .int .i64 (((i + 1) * n / p : Nat) : Int) else .int .i64 0
theorem evenF_step (n p k : Nat) {w : World} {b c : Nat} {t : TypeId} {u : Nat} (hu : (k + 1) * n / p = u) (h : w.rowIs b t c (evenF n p k)) : (w.setCell ⟨b, k, none⟩ (.int .i64 (u : Int))).rowIs b t c (evenF n p (k + 1)) := by
  refine (h.set k _).congr fun i hi => ?_
  unfold evenF
  by_cases e : i = k
  · subst e; rw [if_pos rfl, if_pos (by omega), hu]
  · rw [if_neg e]
    by_cases e2 : i < k
    · rw [if_pos e2, if_pos (by omega)]
    · rw [if_neg e2, if_neg (by omega)]
theorem even_prod {k n p : Nat} (hn : n ≤ 256) (hk : k ≤ 256) : (k + 1) * n ≤ 65792 := by
  have : (k + 1) * n ≤ 257 * 256 := Nat.mul_le_mul (by omega) hn
  omega
theorem c_l00In_e (k lo hi : Int) (w : World) {b : Bool} (h : inB lo k hi = b) : Calls Try.prog 73 #[.int .i64 k, .int .i64 lo, .int .i64 hi] w fun e w' => e = .returned (.bool b) ∧ w = w' := by
  subst h; exact (c_l00In k lo hi w).mono (by rintro e w' ⟨rfl, rfl⟩; exact ⟨rfl, rfl⟩)
theorem c_impl_canCut (a : Option Addr) (n cap : Nat) (zs : List Nat) (p : Int) (w : World) {r : Bool} (hr : evenB zs p = r) (hm : n ≤ 1048576) (h : Reads w a n (flos zs)) (hb : ∀ z ∈ zs, z < 4294967296) :
    Calls Try.prog 97 #[.slice a n cap, .int .i64 p] w fun e w' => e = .returned (.bool r) ∧ Ext w w' := by
  have hz := h.flo.1
  have H := Lib.hid h
  have HB := Lib.hid hb
  cases hl : listB zs
  · have HT := Lib.hid (show r = false by rw [← hr]; exact evenB_1 hl)
    have HL := Lib.hid hl
    clear h hb hl hr
    go_enter Try.func97, Try.ntmps97
    go_wp2_with (go_at_call 17; refine (c_impl_IsList _ _ _ zs _ HL.out hm H.out HB.out).mono ?_; rintro e w' ⟨rfl, x'⟩; have X' := Lib.hid x'; clear x')
    go_ret
    exact ⟨retB (by rw [HT.out]), X'.out⟩
  have HL := Lib.hid hl
  have hn : n ≤ 256 := by have := (list_ok hl).hi; omega
  have hn' : (n : Int) ≤ 256 := by omega
  by_cases h1 : p < 1
  · have HT := Lib.hid (show r = false by rw [← hr]; exact evenB_2 (by omega))
    clear h hb hl hr
    go_enter Try.func97, Try.ntmps97
    go_wp2_with (go_at_call 17; refine (c_impl_IsList _ _ _ zs _ HL.out hm H.out HB.out).mono ?_; rintro e w' ⟨rfl, x'⟩; have X' := Lib.hid x'; clear x')
    go_ret
    exact ⟨retB (by first | (rw [HT.out]; done) | (rw [HT.out]; rfl) | (rw [HT.out]; first | (simp; done) | (simp; omega))), X'.out⟩
  have h1' : 1 ≤ p := by omega
  by_cases h2 : (n : Int) < p
  · have HT := Lib.hid (show r = false by rw [← hr]; exact evenB_2 (by omega))
    clear h hb hl hr h1
    go_enter Try.func97, Try.ntmps97
    go_wp2_with (go_at_call 17; refine (c_impl_IsList _ _ _ zs _ HL.out hm H.out HB.out).mono ?_; rintro e w' ⟨rfl, x'⟩; have X' := Lib.hid x'; clear x')
    go_ret
    exact ⟨retB (by first | (rw [HT.out]; done) | (rw [HT.out]; rfl) | (rw [HT.out]; first | (simp; done) | (simp; omega))), X'.out⟩
  · have h2' : p ≤ (n : Int) := by omega
    have HT := Lib.hid (show r = true by rw [← hr]; exact evenB_y hl (by omega))
    clear h hb hl hr h1 h2
    go_enter Try.func97, Try.ntmps97
    go_wp2_with (go_at_call 17; refine (c_impl_IsList _ _ _ zs _ HL.out hm H.out HB.out).mono ?_; rintro e w' ⟨rfl, x'⟩; have X' := Lib.hid x'; clear x')
    go_ret
    exact ⟨retB (by first | (rw [HT.out]; done) | (rw [HT.out]; rfl) | (rw [HT.out]; first | (simp; done) | (simp; omega))), X'.out⟩
set_option maxHeartbeats 2000000 in
theorem c_impl_EvenCuts (a : Option Addr) (n cap : Nat) (zs : List Nat) (p : Int) (w : World) {rz : List Int} {rb : Bool} (hv : evenR zs p = (rz, rb)) (hm : n ≤ 1048576) (h : Reads w a n (flos zs)) (hb : ∀ z ∈ zs, z < 4294967296) :
    Calls Try.prog 47 #[.slice a n cap, .int .i64 p] w (RetSB 2 rz.length (ints rz) rb w) := by
  have hz := h.flo.1
  have H := Lib.hid h
  have HB := Lib.hid hb
  cases he : evenB zs p
  · rw [evenR_no he] at hv
    cases hv
    have HE := Lib.hid he
    clear h hb he
    go_enter Try.func47, Try.ntmps47
    go_wp2_with (go_at_call 97; refine (c_impl_canCut _ _ _ zs p _ HE.out hm H.out HB.out).mono ?_; rintro e w' ⟨rfl, x'⟩; have X' := Lib.hid x'; clear x')
    go_ret2
    exact ⟨none, 0, rfl, Own.nil _ _ _ _, X'.out⟩
  have he' := he
  unfold evenB at he'
  simp only [Bool.and_eq_true, decide_eq_true_eq] at he'
  obtain ⟨P, rfl⟩ : ∃ P : Nat, p = (P : Int) := ⟨p.toNat, by omega⟩
  rw [evenR_y he] at hv
  cases hv
  have HE := Lib.hid he
  have hn : n ≤ 256 := by have := (list_ok he'.1).hi; omega
  have hP1 : 1 ≤ P := by omega
  have hP2 : P ≤ n := by omega
  obtain ⟨m, hmm⟩ : ∃ m, P = m + 1 := ⟨P - 1, by omega⟩
  have hm1 : (P : Int) - 1 = (m : Int) := by omega
  have hmk := run_make_row' (P := Try.prog) 26 2 (.int .i64 0) 8 Try.underlying26 info_i64 rfl .i64 .i64 m (by omega) (by omega)
  have HZ := Lib.hid hz
  have HM := Lib.hid hmm
  clear h hb he he' hz hmm
  go_enter Try.func47, Try.ntmps47
  go_wp2_with fail
  refine (c_impl_canCut _ _ _ zs P _ HE.out hm H.out HB.out).mono ?_; rintro e w1 ⟨rfl, x'⟩
  have X1 := Lib.hid x'
  have hcl : cap = cap := rfl
  have RW := Lib.hid (World.rowIs_made w1 (.int .i64 0) m 2)
  have XA := Lib.hid (x'.stepA (.cells (madeCells #[.int .i64 0] m) 2))
  clear x' hcl
  go_wp2
  go_loopw [17] (fun i wr => ∃ k : Nat, k ≤ m ∧ i = .int .i64 k ∧ wr.rowIs w1.heap.size 2 m (evenF n P k) ∧ Ext w wr) (fun i _ => m - (intOf i).toNat)
  case atStart => exact ⟨0, Nat.zero_le _, rfl, RW.out.congr fun i _ => rfl, XA.out⟩
  case round =>
    obtain ⟨k, hk, rfl, hrow, hext⟩ := hrel
    by_cases hlt : k < m
    · obtain ⟨v, hv⟩ : ∃ v, (k + 1) * n = v := ⟨_, rfl⟩
      obtain ⟨u, hu⟩ : ∃ u, v / P = u := ⟨_, rfl⟩
      have hvb : v ≤ 65792 := by rw [← hv]; exact even_prod (p := P) hn (by omega)
      have hu2 : (k + 1) * n / P = u := by rw [hv]; exact hu
      have e1 : ((k : Int) + 1) * (n : Int) = (v : Int) := by rw [← hv]; simp
      have e2 : (v : Int) / (P : Int) = (u : Int) := by rw [← hu]; simp
      have e2' : (v : Int).tdiv (P : Int) = (u : Int) := by rw [Int.tdiv_eq_ediv_of_nonneg (by omega)]; exact e2
      have hub : u ≤ v := by rw [← hu]; exact Nat.div_le_self _ _
      have hub2 : (u : Int) ≤ 65792 := by omega
      have e4 : ¬ (P : Int) = 0 := by omega
      have e5 : (0 : Int) < (P : Int) := by omega
      have hcur := hrow.cell hlt
      have hfro := hrow.frozen k
      have HS := Lib.hid (evenF_step n P k hu2 hrow)
      have HX := Lib.hid (Ext.stepS hext (a := ⟨w1.heap.size, k, none⟩) (X1.out.size) (.int .i64 (u : Int)))
      clear hrow hext hv hu hu2
      go_wp2
      go_roundw
      case rel => exact ⟨k + 1, by omega, by go_num, HS.out, HX.out⟩
      case measure => simp [intOf]; omega
    · obtain rfl : k = m := by omega
      have HS := Lib.hid hrow
      have HX := Lib.hid hext
      have HLN := Lib.hid (show (evenL zs.length P).length = k by rw [evenL_length, HM.out]; rfl)
      clear hrow hext
      go_wp2
      go_ret2
      refine ⟨some ⟨w1.heap.size, 0, none⟩, k, by first | (rw [HLN.out]; done) | (rw [HLN.out]; rfl), ?_, HX.out⟩
      rw [HLN.out]
      exact own_made (by rw [ints_length, HLN.out]) X1.out.size HS.out (fun i hi => by rw [ints_get _ i (by rw [HLN.out]; exact hi), evenL_get _ _ i (by rw [HM.out]; exact hi)]; unfold evenF; rw [if_pos hi, HZ.out])
set_option maxHeartbeats 2000000 in
theorem c_spec_EvenCuts (a : Option Addr) (n cap : Nat) (zs : List Nat) (p : Int) (w : World) {rz : List Int} {rb : Bool} (hv : evenR zs p = (rz, rb)) (hm : n ≤ 1048576) (h : Reads w a n (flos zs)) (hb : ∀ z ∈ zs, z < 4294967296) :
    Calls Try.prog 46 #[.slice a n cap, .int .i64 p] w (RetSB 2 rz.length (ints rz) rb w) := by
  have hz := h.flo.1
  have H := Lib.hid h
  have HMX := Lib.hid (show n ≤ maxLen by unfold maxLen; omega)
  have hm' : (n : Int) ≤ 1048576 := by omega
  obtain ⟨i0, hi, hz0, hz1, hz2⟩ := info_parts info_i64
  cases hl : listB zs
  · rw [evenR_no (evenB_1 hl)] at hv
    cases hv
    have HL := Lib.hid hl
    clear h hb hl
    go_enter Try.func46, Try.ntmps46
    go_wp2_with (go_at_call 54; refine (c_spec_l05List _ _ _ zs _ HL.out HMX.out H.out).mono ?_; rintro e w' ⟨rfl, q, rfl⟩)
    go_ret2
    exact ⟨none, 0, rfl, Own.nil _ _ _ _, Ext.drewN _ _⟩
  have HL := Lib.hid hl
  have hn : n ≤ 256 := by have := (list_ok hl).hi; omega
  cases hin : inB 1 p (n : Int)
  · rw [evenR_no (evenB_2 (fun q => by rw [hz] at q; rw [inB_is.2 q] at hin; cases hin))] at hv
    cases hv
    have HI := Lib.hid hin
    clear h hb hl hin
    go_enter Try.func46, Try.ntmps46
    go_wp2_with (first | (go_at_call 54; refine (c_spec_l05List _ _ _ zs _ HL.out HMX.out H.out).mono ?_; rintro e w' ⟨rfl, q, rfl⟩) | (go_at_call 73; refine (c_l00In_e p 1 n _ HI.out).mono ?_; rintro e w' ⟨rfl, rfl⟩))
    go_ret2
    exact ⟨none, 0, rfl, Own.nil _ _ _ _, Ext.drewN _ _⟩
  have hpp := inB_is.1 hin
  obtain ⟨P, rfl⟩ : ∃ P : Nat, p = (P : Int) := ⟨p.toNat, by omega⟩
  rw [evenR_y (evenB_y hl (by rw [hz]; exact hpp))] at hv
  cases hv
  have HI := Lib.hid hin
  have hP1 : 1 ≤ P := by omega
  have hP2 : P ≤ n := by omega
  have HZ := Lib.hid hz
  clear h hb hl hin hpp hz
  go_enter Try.func46, Try.ntmps46
  go_wp2_with fail
  refine (c_spec_l05List _ _ _ zs _ HL.out HMX.out H.out).mono ?_; rintro e w' ⟨rfl, q, rfl⟩
  go_wp2_with fail
  refine (c_l00In_e P 1 n _ HI.out).mono ?_; rintro e w' ⟨rfl, rfl⟩
  obtain ⟨u1, hu1⟩ : ∃ u, w.drewN q = u := ⟨_, rfl⟩
  have X1 := Lib.hid (show Ext w u1 by rw [← hu1]; exact Ext.drewN _ _)
  rw [hu1]
  clear hu1
  go_wp2
  go_loopw [7, 8] (fun v i wr => ∃ k : Nat, k + 1 ≤ P ∧ i = .int .i64 ((k + 1 : Nat) : Int) ∧ wr.ownsRow u1.heap.size 2 1 v k (ints ((evenL n P).take k)) ∧ Ext u1 wr) (fun _ i _ => P - (intOf i).toNat)
  case atStart => exact ⟨0, by omega, rfl, World.ownsRow_made _ _ _ (Nat.le_refl _) (Nat.zero_le _) rfl, Ext.alloc _ _⟩
  case round =>
    obtain ⟨k, hk, rfl, hown, hext⟩ := hrel
    have HO := Lib.hid hown
    have HX := Lib.hid hext
    clear hown hext
    by_cases hlt : k + 1 < P
    · obtain ⟨v, hv⟩ : ∃ v, (k + 1) * n = v := ⟨_, rfl⟩
      obtain ⟨u, hu⟩ : ∃ u, v / P = u := ⟨_, rfl⟩
      have hvb : v ≤ 65792 := by rw [← hv]; exact even_prod (p := P) hn (by omega)
      have HT := Lib.hid (show (evenL n P).take (k + 1) = (evenL n P).take k ++ [(u : Int)] by rw [evenL_take n P k (by omega), hv, hu])
      have e1 : ((k : Int) + 1) * (n : Int) = (v : Int) := by rw [← hv]; simp
      have e2 : (v : Int) / (P : Int) = (u : Int) := by rw [← hu]; simp
      have e2' : (v : Int).tdiv (P : Int) = (u : Int) := by rw [Int.tdiv_eq_ediv_of_nonneg (by omega)]; exact e2
      have hub : u ≤ v := by rw [← hu]; exact Nat.div_le_self _ _
      have hub2 : (u : Int) ≤ 65792 := by omega
      have e3 : (k : Int) + 1 < (P : Int) := by omega
      have e4 : ¬ (P : Int) = 0 := by omega
      have e5 : (0 : Int) < (P : Int) := by omega
      clear hv hu
      go_wp2_with (at_builtin; refine wpList_append_own _ rfl _ _ 26 rfl u1.heap.size 2 i0 (.int .i64 0) 1 8 Try.underlying26 hi hz0 hz1 hz2 rfl (by decide) _ _ _ rfl (HO.out.alloc _) ⟨_, 0, none⟩ 1 1 [.int .i64 (u : Int)] rfl rfl ?c1 ?c2 ?c3 ?c4 ?c5 ?_)
      case c1 => exact one_cell_at _ _ _
      case c2 => intro x hx; simp at hx; subst hx; rfl
      case c3 => unfold maxLen; omega
      case c4 => omega
      case c5 => have := HX.out.size; simp; omega
      intro v' w1 hown' hgrow _
      have HX' := Lib.hid (app_step HX.out HO.out hgrow)
      have HO' := Lib.hid (show w1.ownsRow u1.heap.size 2 1 v' (k + 1) (ints ((evenL n P).take (k + 1))) by rw [HT.out]; simpa [ints] using hown')
      clear hown' hgrow
      go_wp2
      go_roundw
      case rel => exact ⟨k + 1, by omega, by go_num, HO'.out, HX'.out⟩
      case measure => simp [intOf]; omega
    · obtain rfl : P = k + 1 := by omega
      have HT := Lib.hid (show (evenL n (k + 1)).take k = evenL zs.length (k + 1) by rw [HZ.out, List.take_of_length_le (by rw [evenL_length]; exact Nat.le_refl _)])
      obtain ⟨a2, c2, hv, ho⟩ := Own.of_row (e := 0) HO.out
      subst hv
      rw [HT.out] at ho
      have HO2 := Lib.hid ho
      have HLN := Lib.hid (show (evenL zs.length (k + 1)).length = k by rw [evenL_length]; rfl)
      clear ho
      go_wp2
      go_ret2
      exact ⟨a2, c2, by rw [HLN.out]; rfl, by rw [HLN.out]; exact HO2.out.wide X1.out.size (Nat.le_refl _), X1.out.trans HX.out⟩
end Go.Proofs.Ytmgkbgdbahijnaa
