/- Places in lists in ascending order: sort.Search, placeBehind. -/
import Derived.Test.YtibldgcfplpdkaaAsc
namespace Go.Proofs.Ytibldgcfplpdkaa
open Go.ChangeShapes Go.WideShapes Go.ChangeAt Go.RowKit Go.Proofs.Ytibldgcfplpdkaa.Flo
set_option linter.unusedVariables false
/-- how many numbers are at most x -/
def cntLe (zs : List Nat) (x : Nat) : Nat := (zs.filter fun z => decide (fkey z ≤ fkey x)).length
theorem cntLe_le (zs : List Nat) (x : Nat) : cntLe zs x ≤ zs.length := List.length_filter_le _ _
theorem cntLe_snoc (zs : List Nat) (x : Nat) {k : Nat} (hk : k < zs.length) : cntLe (zs.take (k + 1)) x = cntLe (zs.take k) x + if fkey (getN zs k) ≤ fkey x then 1 else 0 := by
  unfold cntLe getN
  rw [List.take_succ_eq_append_getElem hk, List.filter_append, List.length_append, List.getElem?_eq_getElem hk]
  congr 1
  by_cases h : fkey zs[k] ≤ fkey x
  · simp [h]
  · simp [h]
theorem cntLe_at {ys : List Nat} {x i : Nat} (hi : i ≤ ys.length) (h1 : ∀ j, j < i → fkey (getN ys j) ≤ fkey x) (h2 : ∀ j, i ≤ j → j < ys.length → fkey x < fkey (getN ys j)) : cntLe ys x = i := by
  have e : ys = ys.take i ++ ys.drop i := (List.take_append_drop i ys).symm
  unfold cntLe
  rw [e, List.filter_append, List.length_append]
  have e1 : (ys.take i).filter (fun z => decide (fkey z ≤ fkey x)) = ys.take i := by
    rw [List.filter_eq_self]
    intro z hz
    obtain ⟨j, hj, rfl⟩ := List.getElem_of_mem hz
    rw [List.length_take] at hj
    have := h1 j (by omega)
    unfold getN at this
    rw [List.getElem?_eq_getElem (by omega)] at this
    rw [List.getElem_take]
    exact decide_eq_true this
  have e2 : (ys.drop i).filter (fun z => decide (fkey z ≤ fkey x)) = [] := by
    rw [List.filter_eq_nil_iff]
    intro z hz
    obtain ⟨j, hj, rfl⟩ := List.getElem_of_mem hz
    rw [List.length_drop] at hj
    have := h2 (i + j) (by omega) (by omega)
    unfold getN at this
    rw [List.getElem?_eq_getElem (by omega)] at this
    rw [List.getElem_drop]
    simp only [decide_eq_true_eq]
    exact Int.not_le.2 this
  rw [e1, e2, List.length_take]
  simp
  omega
theorem ret_ib2 {a b : Int} {c : Bool} (h : a = b) : Ending.returned (.tuple #[.int .i64 a, .bool c]) = .returned (.tuple #[.int .i64 b, .bool c]) := by rw [h]
theorem ret_i2 {a b : Int} (h : a = b) : Ending.returned (.int .i64 a) = .returned (.int .i64 b) := by rw [h]
theorem c_plb1 (qb xb I n cap : Nat) (a : Option Addr) (ys : List Nat) (x y : Nat) (w : World) {r : Bool} (hI : I < n) (hn : n ≤ 1048576) (hy : getN ys I = y) (fx : isFin .f32 x = true) (fy : isFin .f32 y = true) (hr : decide (fkey x < fkey y) = r)
    (h1 : w.cell? ⟨qb, 0, none⟩ = some (.slice a n cap)) (h2 : w.cell? ⟨xb, 0, none⟩ = some (.float .f32 x)) (h : Reads w a n (flos ys)) :
    Calls Try.prog 217 #[.int .i64 I, .pointer (some ⟨qb, 0, none⟩), .pointer (some ⟨xb, 0, none⟩)] w fun e w' => e = .returned (.bool r) ∧ ∃ q, w' = w.drewN q := by
  obtain ⟨hz, hrd⟩ := h.flo
  rcases hrd with h0 | ⟨b, off, rfl, hc⟩
  · omega
  have c1 := hc I hI
  have hy' : ys[I]?.getD 0 = y := hy
  rw [hy'] at c1
  have kg := key_gt fy fx
  rw [hr] at kg
  have e1 : (I : Int) < (n : Int) := by omega
  clear hc hy hy' hr fx fy h hz
  go_enter Try.func217, Try.ntmps217
  go_wp2
  go_quiet (fail)
  go_wp2
  go_ret
  exact ⟨rfl, _, rfl⟩
set_option maxHeartbeats 1000000 in
theorem c_Search (qb xb n cap : Nat) (a : Option Addr) (ys : List Nat) (x : Nat) (w : World) (hn : n ≤ 1048576) (hf : finB ys = true) (fx : isFin .f32 x = true) (ha : AscF ys)
    (h1 : w.cell? ⟨qb, 0, none⟩ = some (.slice a n cap)) (h2 : w.cell? ⟨xb, 0, none⟩ = some (.float .f32 x)) (h : Reads w a n (flos ys)) :
    Calls Try.prog 216 #[.int .i64 n, .func (.func 217) #[] #[.pointer (some ⟨qb, 0, none⟩), .pointer (some ⟨xb, 0, none⟩)]] w fun e w' => e = .returned (.int .i64 (cntLe ys x : Nat)) ∧ ∃ q, w' = w.drewN q := by
  have hz := h.flo.1
  have HZ := Lib.hid hz
  have H := Lib.hid h
  have HF := Lib.hid hf
  have FX := Lib.hid fx
  have HA := Lib.hid ha
  have H1 := Lib.hid h1
  have H2 := Lib.hid h2
  clear h hz hf fx ha h1 h2
  go_enter Try.func216, Try.ntmps216
  go_wp2
  go_loopw [5, 6] (fun s t wr => ∃ i j q : Nat, i ≤ j ∧ j ≤ n ∧ s = .int .i64 i ∧ t = .int .i64 j ∧ wr = w.drewN q ∧ (∀ k, k < i → fkey (getN ys k) ≤ fkey x) ∧ (∀ k, j ≤ k → k < n → fkey x < fkey (getN ys k))) (fun s t _ => (intOf t).toNat - (intOf s).toNat)
  case atStart => exact ⟨0, n, 0, Nat.zero_le _, Nat.le_refl _, rfl, rfl, rfl, fun k hk => absurd hk (Nat.not_lt_zero _), fun k hk hkn => by omega⟩
  case round =>
    obtain ⟨i, j, q, hij, hjn, rfl, rfl, hw, hlo, hhi⟩ := hrel
    have HW := Lib.hid hw
    have HLO := Lib.hid hlo
    have HHI := Lib.hid hhi
    clear hw hlo hhi
    by_cases hlt : i < j
    · obtain ⟨m, hm⟩ : ∃ m, (i + j) / 2 = m := ⟨_, rfl⟩
      have hmi : ((i : Int) + (j : Int)) / 2 = (m : Int) := by omega
      have hm1 : i ≤ m := by omega
      have hm2 : m < j := by omega
      have hlt' : (i : Int) < (j : Int) := by omega
      have D1 := Lib.hid (show wr.cell? ⟨qb, 0, none⟩ = some (.slice a n cap) by rw [HW.out]; exact H1.out)
      have D2 := Lib.hid (show wr.cell? ⟨xb, 0, none⟩ = some (.float .f32 x) by rw [HW.out]; exact H2.out)
      have D3 := Lib.hid (show Reads wr a n (flos ys) by rw [HW.out]; exact H.out.on (Ext.drewN _ _))
      have FY := Lib.hid (getN_fin HF.out (i := m) (by rw [HZ.out]; omega))
      clear hm
      cases hr : decide (fkey x < fkey (getN ys m))
      · have HR := Lib.hid hr
        have HN := Lib.hid (show ∀ k, k < m + 1 → fkey (getN ys k) ≤ fkey x from fun k hk => by
          have q1 := of_decide_eq_false hr
          have q2 := HA.out k m (by omega) (by rw [HZ.out]; omega)
          omega)
        clear hr
        go_wp2_with (go_at_call 217; refine (c_plb1 qb xb m n cap a ys x _ _ (by omega) hn rfl FX.out FY.out HR.out D1.out D2.out D3.out).mono ?_; rintro e w' ⟨rfl, q', rfl⟩)
        go_roundw
        case rel => exact ⟨m + 1, j, _, by omega, hjn, by go_num, rfl, by rw [HW.out, World.drewN_drewN], HN.out, HHI.out⟩
        case measure => simp [intOf]; omega
      · have HR := Lib.hid hr
        have HN := Lib.hid (show ∀ k, m ≤ k → k < n → fkey x < fkey (getN ys k) from fun k hk hkn => by
          have q1 := of_decide_eq_true hr
          have q2 := HA.out m k hk (by rw [HZ.out]; exact hkn)
          omega)
        clear hr
        go_wp2_with (go_at_call 217; refine (c_plb1 qb xb m n cap a ys x _ _ (by omega) hn rfl FX.out FY.out HR.out D1.out D2.out D3.out).mono ?_; rintro e w' ⟨rfl, q', rfl⟩)
        go_roundw
        case rel => exact ⟨i, m, _, hm1, by omega, rfl, rfl, by rw [HW.out, World.drewN_drewN], HLO.out, HN.out⟩
        case measure => simp [intOf]; omega
    · obtain rfl : i = j := by omega
      have HC := Lib.hid (show cntLe ys x = i from cntLe_at (by rw [HZ.out]; exact hjn) HLO.out (fun k h1 h2 => HHI.out k h1 (by rw [← HZ.out]; exact h2)))
      go_wp2
      go_ret
      exact ⟨ret_i2 (by rw [HC.out]), _, HW.out⟩
theorem c_impl_placeBehind (a : Option Addr) (n cap : Nat) (ys : List Nat) (x : Nat) (w : World) (hn : n ≤ 1048576) (hf : finB ys = true) (fx : isFin .f32 x = true) (ha : AscF ys) (h : Reads w a n (flos ys)) :
    Calls Try.prog 113 #[.slice a n cap, .float .f32 x] w fun e w' => e = .returned (.int .i64 (cntLe ys x : Nat)) ∧ Ext w w' := by
  have H := Lib.hid h
  have HF := Lib.hid hf
  have FX := Lib.hid fx
  have HA := Lib.hid ha
  have B1 := Lib.hid ((Box.alloc w #[.slice a n cap] 33).past (.cells #[.float .f32 x] 37))
  have B2 := Lib.hid (Box.alloc_at (w.alloc (.cells #[.slice a n cap] 33)) #[.float .f32 x] 37 (b := w.heap.size + 1) (by simp))
  clear h hf fx ha
  go_enter Try.func113, Try.ntmps113
  go_wp2_with fail
  refine (c_Search w.heap.size (w.heap.size + 1) n cap a ys x _ hn HF.out FX.out HA.out (B1.out.cell 0) (B2.out.cell 0) (H.out.on (by (repeat (first | assumption | exact Ext.refl _ | (with_reducible refine Ext.stepS ?_ (by first | exact Nat.le_refl _ | (simp; done) | (simp; omega)) _) | (with_reducible refine Ext.stepN ?_ _) | (with_reducible refine Ext.stepD ?_) | (with_reducible refine Ext.stepA ?_ _)))))).mono ?_; rintro e w' ⟨rfl, q, rfl⟩
  go_wp2
  go_ret
  exact ⟨rfl, by (repeat (first | assumption | exact Ext.refl _ | (with_reducible refine Ext.stepS ?_ (by first | exact Nat.le_refl _ | (simp; done) | (simp; omega)) _) | (with_reducible refine Ext.stepN ?_ _) | (with_reducible refine Ext.stepD ?_) | (with_reducible refine Ext.stepA ?_ _)))⟩
end Go.Proofs.Ytibldgcfplpdkaa
