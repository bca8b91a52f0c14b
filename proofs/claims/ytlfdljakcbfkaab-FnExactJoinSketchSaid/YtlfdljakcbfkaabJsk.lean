/- JoinSketch: both sides; sums of edges. -/
import Derived.Test.YtlfdljakcbfkaabCis3
import Derived.Test.YtlfdljakcbfkaabChc
import Derived.Test.YtlfdljakcbfkaabKin
import Derived.Test.YtlfdljakcbfkaabMul
import Derived.Deep.RegionHeld3
import Derived.IntWalk
import Derived.Deep.DeepCutAuto
import Derived.Deep.LoopGhost
namespace Go.Proofs.Ytlfdljakcbfkaab
open Go.ChangeShapes Go.WideShapes Go.ChangeAt Go.RowKit
set_option linter.unusedVariables false
theorem ownsOnJ {w w' : World} {base : Nat} {e : TypeId} {size : Nat} {v : Value} {n : Nat} {xs : List Value} (h : w.ownsRow base e size v n xs) (x : Ext w w') : w'.ownsRow base e size v n xs := by
  refine ⟨h.1, ?_⟩
  rcases h.2 with h0 | ⟨g, cap, cur, rfl, hb, hg, hn, hm, hs, ht⟩
  · exact .inl h0
  · exact .inr ⟨g, cap, cur, rfl, hb, by rw [Below.block x g (Array.getElem?_eq_some_iff.1 hg).1]; exact hg, hn, hm, hs, ht⟩
def sumsB (zs : List Int) : Bool := decide (zs.length = 48) && manyB 1000000000000 zs
structure SumsOk (zs : List Int) : Prop where
  len : zs.length = 48
  lim : ∀ i, i < 48 → -1000000000000 ≤ zs[i]?.getD 0 ∧ zs[i]?.getD 0 ≤ 1000000000000
theorem sums_ok {zs : List Int} (h : sumsB zs = true) : SumsOk zs := by
  unfold sumsB at h
  simp only [Bool.and_eq_true, decide_eq_true_eq] at h
  exact ⟨h.1, fun i hi => manyB_at h.2 (by omega)⟩
def addL (xs ys : List Int) : List Int := (List.range xs.length).map fun i => xs[i]?.getD 0 + ys[i]?.getD 0
theorem addL_length (xs ys : List Int) : (addL xs ys).length = xs.length := by simp [addL]
theorem addL_get (xs ys : List Int) (i : Nat) (h : i < xs.length) : (addL xs ys)[i]?.getD 0 = xs[i]?.getD 0 + ys[i]?.getD 0 := by simp [addL, h]
theorem addL_snoc (xs ys : List Int) (k : Nat) (h : k < xs.length) : ints ((addL xs ys).take (k + 1)) = ints ((addL xs ys).take k) ++ [.int .i64 (xs[k]?.getD 0 + ys[k]?.getD 0)] := by
  have hl : k < (addL xs ys).length := by rw [addL_length]; exact h
  have hg := addL_get xs ys k h
  rw [List.getElem?_eq_getElem hl] at hg
  unfold ints
  rw [List.take_succ_eq_append_getElem hl, List.map_append]
  simp only [Option.getD_some] at hg
  rw [hg]; rfl
def joinSkR (xs ys : List Int) : List Int × Bool := if sumsB xs && sumsB ys then (addL xs ys, true) else ([], false)
theorem joinSkR_1 {xs ys : List Int} (h : sumsB xs = false) : joinSkR xs ys = ([], false) := if_neg (by rw [h]; simp)
theorem joinSkR_2 {xs ys : List Int} (h : sumsB ys = false) : joinSkR xs ys = ([], false) := if_neg (by rw [h, Bool.and_false]; decide)
theorem joinSkR_3 {xs ys : List Int} (h : sumsB xs = true) (h2 : sumsB ys = true) : joinSkR xs ys = (addL xs ys, true) := if_pos (by rw [h, h2]; rfl)
theorem joinSkR_le {xs ys rz : List Int} {rb : Bool} (h : joinSkR xs ys = (rz, rb)) : rz.length ≤ 1048576 := by
  unfold joinSkR at h
  split at h
  · rename_i hc
    rw [Bool.and_eq_true] at hc
    have := (sums_ok hc.1).len
    cases h; rw [addL_length]; omega
  · cases h; simp
/-- a list some of whose numbers are replaced -/
def mixI (f : Nat → Value) (zs : List Int) (k : Nat) (i : Nat) : Value := if i < k then .int .i64 (zs[i]?.getD 0) else f i
theorem mixI_step (f : Nat → Value) (zs : List Int) (k : Nat) {w : World} {b n : Nat} {t : TypeId} (h : w.rowIs b t n (mixI f zs k)) : (w.setCell ⟨b, k, none⟩ (.int .i64 (zs[k]?.getD 0))).rowIs b t n (mixI f zs (k + 1)) := by
  refine (h.set k _).congr fun i hi => ?_
  unfold mixI
  by_cases e : i = k
  · subst e; rw [if_pos rfl, if_pos (by omega)]
  · rw [if_neg e]
    by_cases e2 : i < k
    · rw [if_pos e2, if_pos (by omega)]
    · rw [if_neg e2, if_neg (by omega)]
theorem c_impl_areSums (a : Option Addr) (n cap : Nat) (zs : List Int) (w : World) {r : Bool} (hr : sumsB zs = r) (hm : n ≤ maxLen) (h : Reads w a n (ints zs)) :
    Calls Try.prog 67 #[.slice a n cap] w fun e w' => e = .returned (.bool r) ∧ w = w' := by
  have hz := h.int.1
  have H := Lib.hid h
  have HM := Lib.hid hm
  by_cases hn : n = 48
  · subst hn
    have HR := Lib.hid (show manyB 1000000000000 zs = r by rw [← hr]; unfold sumsB; rw [decide_eq_true hz]; rfl)
    clear hr hz h hm
    go_enter Try.func67, Try.ntmps67
    go_wp2_with (go_at_call 106; refine (c_impl_areWithin _ _ _ zs _ _ (by decide) (by decide) HM.out HR.out H.out).mono ?_; rintro e w' ⟨rfl, rfl⟩)
    go_ret
    exact ⟨rfl, rfl⟩
  · have HR := Lib.hid (show r = false by rw [← hr]; unfold sumsB; rw [decide_eq_false (by omega)]; rfl)
    have h1 : ((n : Int) == 48) = false := by simp; omega
    have h2 : decide ((n : Int) = 48) = false := by simp; omega
    have h3 : ¬ (n : Int) = 48 := by omega
    clear hr hz h hm hn
    go_enter Try.func67, Try.ntmps67
    go_wp2
    go_ret
    exact ⟨retB (by first | (rw [HR.out]; done) | (rw [HR.out]; rfl) | (rw [HR.out]; simp; done) | (rw [HR.out]; simp; omega)), rfl⟩
set_option maxHeartbeats 1000000 in
theorem c_spec_l07Sums (a : Option Addr) (n cap : Nat) (zs : List Int) (w : World) {r : Bool} (hr : sumsB zs = r) (hm : n ≤ 1048576) (h : Reads w a n (ints zs)) :
    Calls Try.prog 66 #[.slice a n cap] w fun e w' => e = .returned (.bool r) ∧ w = w' := by
  obtain ⟨hz, hrd⟩ := h.int
  have HZ := Lib.hid hz
  have HC := Lib.hid hrd
  have HR := Lib.hid hr
  clear hr hz h hrd
  go_enter Try.func66, Try.ntmps66
  go_wp2
  go_loop [6] (fun i => ∃ k : Nat, k ≤ n ∧ i = .int .i64 k ∧ ∀ j, j < k → -1000000000000 ≤ zs[j]?.getD 0 ∧ zs[j]?.getD 0 ≤ 1000000000000) (fun i => n - (intOf i).toNat)
  case atStart => exact ⟨0, Nat.zero_le _, rfl, fun j hj => absurd hj (Nat.not_lt_zero _)⟩
  case round =>
    obtain ⟨k, hk, rfl, hall⟩ := hrel
    have HA := Lib.hid hall
    clear hall
    by_cases hlt : k < n
    · rcases HC.out with h0 | ⟨b, off, rfl, hc⟩
      · omega
      have hcell := hc k hlt
      obtain ⟨x, hx⟩ : ∃ x, zs[k]?.getD 0 = x := ⟨_, rfl⟩
      have HX := Lib.hid hx
      rw [hx] at hcell
      clear hc hx
      cases hin : inB (-1000000000000) x 1000000000000
      · have HI := Lib.hid hin
        have HF := Lib.hid (show r = false by
          rw [← HR.out]; unfold sumsB
          rw [manyB_bad (i := k) (by rw [HZ.out]; exact hlt) (by rw [HX.out]; exact of_decide_eq_false HI.out), Bool.and_false])
        clear hin
        go_wp2_with (go_at_call 49; refine (c_l00In_b _ _ _ _ HI.out).mono ?_; rintro e w' ⟨rfl, rfl⟩)
        go_ret
        exact ⟨retB (by rw [HF.out]), rfl⟩
      · have HI := Lib.hid hin
        clear hin
        go_wp2_with (go_at_call 49; refine (c_l00In_b _ _ _ _ HI.out).mono ?_; rintro e w' ⟨rfl, rfl⟩)
        go_round
        case rel => exact ⟨k + 1, by omega, by go_num, fun j hj => by
          by_cases e : j = k
          · subst e; rw [HX.out]; exact inB_is.1 HI.out
          · exact HA.out j (by omega)⟩
        case measure => simp [intOf]; omega
    · obtain rfl : k = n := by omega
      have HY := Lib.hid (show r = decide (k = 48) by
        rw [← HR.out]; unfold sumsB
        rw [manyB_mk (by rw [HZ.out]; exact HA.out), Bool.and_true, HZ.out])
      clear hlt
      by_cases h48 : k = 48
      · subst h48
        go_wp2
        go_ret
        exact ⟨retB (by rw [HY.out]; rfl), rfl⟩
      · have h1 : ((k : Int) == 48) = false := by simp; omega
        have h2 : decide ((k : Int) = 48) = false := by simp; omega
        have h3 : ¬ (k : Int) = 48 := by omega
        have HY2 := Lib.hid (show r = false by rw [HY.out]; exact decide_eq_false h48)
        clear h48
        go_wp2
        go_ret
        exact ⟨retB (by first | (rw [HY2.out]; done) | (rw [HY2.out]; rfl) | (rw [HY2.out]; simp; done) | (rw [HY2.out]; simp; omega)), rfl⟩
set_option maxHeartbeats 4000000 in
theorem c_impl_JoinSketch (a : Option Addr) (n cap : Nat) (xs : List Int) (a' : Option Addr) (n' cap' : Nat) (ys : List Int) (w : World) {rz : List Int} {rb : Bool} (hv : joinSkR xs ys = (rz, rb)) (hm : n ≤ 1048576) (h : Reads w a n (ints xs)) (hm' : n' ≤ 1048576) (h' : Reads w a' n' (ints ys)) :
    Calls Try.prog 22 #[.slice a n cap, .slice a' n' cap'] w (RetSB 2 rz.length (ints rz) rb w) := by
  have hz := h.int.1
  obtain ⟨hz', hr'⟩ := h'.int
  have H := Lib.hid h
  have H' := Lib.hid h'
  have HM := Lib.hid (show n ≤ maxLen by unfold maxLen; omega)
  have HM' := Lib.hid (show n' ≤ maxLen by unfold maxLen; omega)
  cases hx : sumsB xs
  · rw [joinSkR_1 hx] at hv
    simp only [Prod.mk.injEq] at hv
    obtain ⟨rfl, rfl⟩ := hv
    have HX := Lib.hid hx
    clear h h' hm hm' hz hz' hr' hx
    go_enter Try.func22, Try.ntmps22
    go_wp2_with fail
    refine (c_impl_areSums _ _ _ xs _ HX.out HM.out H.out).mono ?_; rintro e w1 ⟨rfl, rfl⟩
    go_wp2
    go_ret2
    exact RetSB.nil _ _
  cases hy : sumsB ys
  · rw [joinSkR_2 hy] at hv
    simp only [Prod.mk.injEq] at hv
    obtain ⟨rfl, rfl⟩ := hv
    have HX := Lib.hid hx
    have HY := Lib.hid hy
    clear h h' hm hm' hz hz' hr' hx hy
    go_enter Try.func22, Try.ntmps22
    go_wp2_with fail
    refine (c_impl_areSums _ _ _ xs _ HX.out HM.out H.out).mono ?_; rintro e w1 ⟨rfl, rfl⟩
    go_wp2_with fail
    refine (c_impl_areSums _ _ _ ys _ HY.out HM'.out H'.out).mono ?_; rintro e w1 ⟨rfl, rfl⟩
    go_wp2
    go_ret2
    exact RetSB.nil _ _
  · rw [joinSkR_3 hx hy] at hv
    simp only [Prod.mk.injEq] at hv
    obtain ⟨rfl, rfl⟩ := hv
    have HX := Lib.hid hx
    have HY := Lib.hid hy
    have OK := Lib.hid (sums_ok hx)
    have OK' := Lib.hid (sums_ok hy)
    have HC := Lib.hid hr'
    obtain rfl : n = 48 := by have := OK.out.len; omega
    obtain rfl : n' = 48 := by have := OK'.out.len; omega
    rw [addL_length, OK.out.len]
    clear h h' hm hm' hz hz' hr' hx hy
    go_enter Try.func22, Try.ntmps22
    go_wp2_with fail
    refine (c_impl_areSums _ _ _ xs _ HX.out HM.out H.out).mono ?_; rintro e w1 ⟨rfl, rfl⟩
    go_wp2_with fail
    refine (c_impl_areSums _ _ _ ys _ HY.out HM'.out H'.out).mono ?_; rintro e w1 ⟨rfl, rfl⟩
    go_wp2_with fail
    refine (c_Clone_r _ _ _ xs _ (by decide) (by decide) H.out).mono ?_; rintro e w2 ⟨g, c2, f, rfl, hg, hc2, hrow, x2⟩
    have HG := Lib.hid hg
    have HC2 := Lib.hid hc2
    have HRW := Lib.hid hrow
    have X2 := Lib.hid x2
    clear hg hc2 hrow x2
    go_wp2
    go_loopw [21] (fun i wr => ∃ k : Nat, k ≤ 48 ∧ i = .int .i64 k ∧ wr.rowIs g 2 c2 (mixI (rowT xs f) (addL xs ys) k) ∧ Ext w wr) (fun i _ => 48 - (intOf i).toNat)
    case atStart => exact ⟨0, Nat.zero_le _, rfl, HRW.out.congr fun i _ => rfl, X2.out⟩
    case round =>
      obtain ⟨k, hk, rfl, hrow, hext⟩ := hrel
      have HRR := Lib.hid hrow
      have HE := Lib.hid hext
      by_cases hlt : k < 48
      · rcases HC.out with h0 | ⟨b, off, rfl, hc⟩
        · omega
        have hlt' : (k : Int) < 48 := by omega
        have hcell : wr.cell? ⟨b, off + k, none⟩ = some (.int .i64 (ys[k]?.getD 0)) := by
          have h1 := hc k hlt
          rw [hext.cell b _ (World.block_lt_of_cell? w ⟨b, off + k, none⟩ h1)]; exact h1
        obtain ⟨y, hy⟩ : ∃ y, ys[k]?.getD 0 = y := ⟨_, rfl⟩
        obtain ⟨x, hx⟩ : ∃ x, xs[k]?.getD 0 = x := ⟨_, rfl⟩
        obtain ⟨x0, x1⟩ := OK.out.lim k hlt
        obtain ⟨y0, y1⟩ := OK'.out.lim k hlt
        have hcur : wr.cell? ⟨g, k, none⟩ = some (.int .i64 x) := by
          rw [hrow.cell (by have := HC2.out; omega)]
          unfold mixI; rw [if_neg (Nat.lt_irrefl k), rowT_at (by rw [OK.out.len]; exact hlt), hx]
        have hfro := hrow.frozen k
        have HST := Lib.hid (show (wr.setCell ⟨g, k, none⟩ (.int .i64 (x + y))).rowIs g 2 c2 (mixI (rowT xs f) (addL xs ys) (k + 1)) by
          have := mixI_step (rowT xs f) (addL xs ys) k hrow
          rw [addL_get xs ys k (by rw [OK.out.len]; exact hlt), hx, hy] at this
          exact this)
        have HE2 := Lib.hid (show Ext w (wr.setCell ⟨g, k, none⟩ (.int .i64 (x + y))) from Below.setCell hext HG.out _)
        rw [hx] at x0 x1
        rw [hy] at y0 y1 hcell
        clear hc hrow hext hx hy
        go_wp2
        go_roundw
        case rel => exact ⟨k + 1, by omega, by go_num, HST.out, HE2.out⟩
        case measure => simp [intOf]; omega
      · obtain rfl : k = 48 := by omega
        clear hlt hrow hext
        go_wp2
        go_ret2
        refine ⟨_, _, rfl, ⟨by rw [ints_length, addL_length]; exact OK.out.len, HC2.out, .inr ⟨g, _, rfl, HG.out, HRR.out.lt, HRR.out, fun i hi => ?_⟩⟩, HE.out⟩
        rw [ints_get _ i (by rw [addL_length, OK.out.len]; exact hi)]; unfold mixI; rw [if_pos hi]
set_option maxRecDepth 100000 in
set_option maxHeartbeats 4000000 in
theorem c_spec_JoinSketch (a : Option Addr) (n cap : Nat) (xs : List Int) (a' : Option Addr) (n' cap' : Nat) (ys : List Int) (w : World) {rz : List Int} {rb : Bool} (hv : joinSkR xs ys = (rz, rb)) (hm : n ≤ 1048576) (h : Reads w a n (ints xs)) (hm' : n' ≤ 1048576) (h' : Reads w a' n' (ints ys)) :
    Calls Try.prog 21 #[.slice a n cap, .slice a' n' cap'] w (RetSB 2 rz.length (ints rz) rb w) := by
  obtain ⟨hz, hr⟩ := h.int
  obtain ⟨hz', hr'⟩ := h'.int
  obtain ⟨i0, hi, hz0, hz1, hz2⟩ := info_parts info_i64
  have H := Lib.hid h
  have H' := Lib.hid h'
  have HM := Lib.hid hm
  have HM' := Lib.hid hm'
  cases hx : sumsB xs
  · rw [joinSkR_1 hx] at hv
    simp only [Prod.mk.injEq] at hv
    obtain ⟨rfl, rfl⟩ := hv
    have HX := Lib.hid hx
    clear h h' hm hm' hz hz' hr' hr hx
    go_enter Try.func21, Try.ntmps21
    go_wp2_with fail
    refine (c_spec_l07Sums _ _ _ xs _ HX.out HM.out H.out).mono ?_; rintro e w1 ⟨rfl, rfl⟩
    go_wp2
    go_ret2
    exact RetSB.nil _ _
  cases hy : sumsB ys
  · rw [joinSkR_2 hy] at hv
    simp only [Prod.mk.injEq] at hv
    obtain ⟨rfl, rfl⟩ := hv
    have HX := Lib.hid hx
    have HY := Lib.hid hy
    clear h h' hm hm' hz hz' hr' hr hx hy
    go_enter Try.func21, Try.ntmps21
    go_wp2_with fail
    refine (c_spec_l07Sums _ _ _ xs _ HX.out HM.out H.out).mono ?_; rintro e w1 ⟨rfl, rfl⟩
    go_wp2_with fail
    refine (c_spec_l07Sums _ _ _ ys _ HY.out HM'.out H'.out).mono ?_; rintro e w1 ⟨rfl, rfl⟩
    go_wp2
    go_ret2
    exact RetSB.nil _ _
  · rw [joinSkR_3 hx hy] at hv
    simp only [Prod.mk.injEq] at hv
    obtain ⟨rfl, rfl⟩ := hv
    have HX := Lib.hid hx
    have HY := Lib.hid hy
    have OK := Lib.hid (sums_ok hx)
    have OK' := Lib.hid (sums_ok hy)
    obtain rfl : n = 48 := by have := OK.out.len; omega
    obtain rfl : n' = 48 := by have := OK'.out.len; omega
    rcases hr with h0 | ⟨b, off, rfl, hc⟩
    · omega
    rcases hr' with h0 | ⟨b', off', rfl, hc'⟩
    · omega
    have HC := Lib.hid hc
    have HC' := Lib.hid hc'
    rw [addL_length, OK.out.len]
    clear h h' hm hm' hz hz' hx hy hc hc'
    go_enter Try.func21, Try.ntmps21
    go_wp2_with fail
    refine (c_spec_l07Sums _ _ _ xs _ HX.out HM.out H.out).mono ?_; rintro e w1 ⟨rfl, rfl⟩
    go_wp2_with fail
    refine (c_spec_l07Sums _ _ _ ys _ HY.out HM'.out H'.out).mono ?_; rintro e w1 ⟨rfl, rfl⟩
    go_wp2_with fail
    go_loopw [6, 19] (fun v i wr => ∃ k : Nat, k ≤ 48 ∧ i = .int .i64 k ∧ wr.ownsRow w.heap.size 2 1 v k (ints ((addL xs ys).take k)) ∧ Ext w wr) (fun _ i _ => 48 - (intOf i).toNat)
    case atStart => exact ⟨0, Nat.zero_le _, rfl, World.ownsRow_made _ _ _ (Nat.le_refl _) (Nat.zero_le _) rfl, Ext.alloc _ _⟩
    case round =>
      obtain ⟨k, hk, rfl, hown, hext⟩ := hrel
      have HO := Lib.hid hown
      have HE := Lib.hid hext
      have HES := Lib.hid hext.size
      clear hown hext
      by_cases hlt : k < 48
      · have hlt' : (k : Int) < 48 := by omega
        have hcx := Ext.some HE.out (HC.out k hlt)
        have hcy := Ext.some HE.out (HC'.out k hlt)
        obtain ⟨y, hy⟩ : ∃ y, ys[k]?.getD 0 = y := ⟨_, rfl⟩
        obtain ⟨x, hx⟩ : ∃ x, xs[k]?.getD 0 = x := ⟨_, rfl⟩
        obtain ⟨x0, x1⟩ := OK.out.lim k hlt
        obtain ⟨y0, y1⟩ := OK'.out.lim k hlt
        have HT := Lib.hid (show ints ((addL xs ys).take (k + 1)) = ints ((addL xs ys).take k) ++ [.int .i64 (x + y)] by rw [addL_snoc xs ys k (by rw [OK.out.len]; exact hlt), hx, hy])
        rw [hx] at x0 x1 hcx
        rw [hy] at y0 y1 hcy
        have HCX := Lib.hid hcx
        have HCY := Lib.hid hcy
        have HWX := Lib.hid (show w.cell? ⟨b, off + k, none⟩ = some (.int .i64 x) by rw [HC.out k hlt, hx])
        have HWY := Lib.hid (show w.cell? ⟨b', off' + k, none⟩ = some (.int .i64 y) by rw [HC'.out k hlt, hy])
        clear hx hy
        have hwr : IntKind.i64.wrap (x + y) = x + y := IntWalk.i64_in _ (by omega)
        go_wp2_with fail
        go_region_held3 (fun w' => w'.cell? ⟨b, off + k, none⟩ = some (.int .i64 x) ∧ w'.cell? ⟨b', off' + k, none⟩ = some (.int .i64 y)) (first | exact ⟨KC, KC'⟩ | exact ⟨Ext.some (by (repeat (first | assumption | exact Ext.refl _ | (with_reducible refine Ext.stepS ?_ (by first | exact Nat.le_refl _ | (simp; done) | (simp; omega)) _) | (with_reducible refine Ext.stepN ?_ _) | (with_reducible refine Ext.stepD ?_) | (with_reducible refine Ext.stepA ?_ _)))) HCX.out, Ext.some (by (repeat (first | assumption | exact Ext.refl _ | (with_reducible refine Ext.stepS ?_ (by first | exact Nat.le_refl _ | (simp; done) | (simp; omega)) _) | (with_reducible refine Ext.stepN ?_ _) | (with_reducible refine Ext.stepD ?_) | (with_reducible refine Ext.stepA ?_ _)))) HCY.out⟩)
          ((refine step_append_lies _ rfl (.tmp 22) (.tmp 32) 22 rfl w.heap.size 2 i0 _ 1 8 Try.underlying22 hi hz0 hz1 hz2 rfl (by decide) _ k (ints ((addL xs ys).take k)) (by rfl) (ownsOnJ HO.out (by (repeat (first | assumption | exact Ext.refl _ | (with_reducible refine Ext.stepS ?_ (by first | exact Nat.le_refl _ | (simp; done) | (simp; omega)) _) | (with_reducible refine Ext.stepN ?_ _) | (with_reducible refine Ext.stepD ?_) | (with_reducible refine Ext.stepA ?_ _))))) ⟨wr.heap.size, 0, none⟩ 1 1 [.int .i64 (x + y)] (by rfl) (by rfl) (one_cell_at _ _ _) (by intro u hu; simp at hu; subst hu; rfl) (by decide) (by unfold maxLen; omega) (by omega) (by have := HES.out; first | omega | (simp; omega)) (wr.heap.size + 1) (by first | omega | (simp; done) | (simp; omega)) ?_; intro gg c2 w1 hown1 hgrow hat hlt1; have EA : Ext w w1 := Below.grown (show Ext _ _ by have he := HE.out; (repeat (first | assumption | exact Ext.refl _ | (with_reducible refine Ext.stepS ?_ (by first | exact Nat.le_refl _ | (simp; done) | (simp; omega)) _) | (with_reducible refine Ext.stepN ?_ _) | (with_reducible refine Ext.stepD ?_) | (with_reducible refine Ext.stepA ?_ _)))) hgrow (by have := HES.out; first | omega | (simp; omega)) (fun j hj => by have := (HO.out.lt j hj).1; first | omega | (simp; omega)); have KC := Ext.some EA HWX.out; have KC' := Ext.some EA HWY.out; have OW := Lib.hid hown1; have EH := Lib.hid EA; clear hown1 hgrow))
        clear hcx hcy
        go_wp2
        go_roundw
        case rel => exact ⟨k + 1, by omega, by go_num, by rw [HT.out]; exact OW.out, EH.out⟩
        case measure => simp [intOf]; omega
      · obtain rfl : k = 48 := by omega
        obtain ⟨a', c', hv', ho⟩ := Own.of_row (e := 0) HO.out
        subst hv'
        have ho2 := ho
        rw [List.take_of_length_le (by rw [addL_length, OK.out.len]; exact Nat.le_refl _)] at ho2
        have HO' := Lib.hid ho2
        clear ho ho2 hlt
        go_wp2
        go_ret2
        exact ⟨_, _, rfl, HO'.out, HE.out⟩
end Go.Proofs.Ytlfdljakcbfkaab
