/- SameCells: both sides. -/
import Derived.Test.YtjckikcndoobnaaPuc
import Derived.Laws.StructEq
namespace Go.Proofs.Ytjckikcndoobnaa
open Go.ChangeShapes Go.WideShapes Go.ChangeAt Go.RowKit
set_option linter.unusedVariables false
def sameL (xs ys : List Int) : Bool := decide (xs = ys)
theorem sameL_len {xs ys : List Int} (h : xs.length ≠ ys.length) : sameL xs ys = false := decide_eq_false fun e => h (by rw [e])
theorem sameL_at {xs ys : List Int} {k : Nat} (h : xs[k]?.getD 0 ≠ ys[k]?.getD 0) : sameL xs ys = false := decide_eq_false fun e => h (by rw [e])
theorem sameL_all {xs ys : List Int} (h : xs.length = ys.length) (ha : ∀ i, i < xs.length → xs[i]?.getD 0 = ys[i]?.getD 0) : sameL xs ys = true := by
  refine decide_eq_true (List.ext_getElem? fun i => ?_)
  by_cases hi : i < xs.length
  · have h1 := ha i hi
    rw [List.getElem?_eq_getElem hi, List.getElem?_eq_getElem (by omega)] at h1 ⊢
    simpa using h1
  · rw [List.getElem?_eq_none (by omega), List.getElem?_eq_none (by omega)]
def sameC (W D S : Int) (zs : List Int) (W' D' S' : Int) (ys : List Int) : Bool := (W == W') && (D == D') && (S == S') && sameL zs ys
set_option maxHeartbeats 1000000 in
theorem c_Equal (a b : Option Addr) (n m c c' : Nat) (xs ys : List Int) (w : World) {r : Bool} (hr : sameL xs ys = r) (hn : n ≤ maxLen) (hm : m ≤ maxLen) (h : Reads w a n (ints xs)) (h' : Reads w b m (ints ys)) :
    Calls Try.prog 58 #[.slice a n c, .slice b m c'] w fun e w' => e = .returned (.bool r) ∧ ∃ q, w' = w.drewN q := by
  unfold maxLen at hn hm
  obtain ⟨hx, h1⟩ := h.int
  obtain ⟨hy, h2⟩ := h'.int
  by_cases hl : n = m
  · subst hl
    have H1 := Lib.hid h1
    have H2 := Lib.hid h2
    have HX := Lib.hid hx
    have HY := Lib.hid hy
    have HR := Lib.hid hr
    have g1 : ((n : Int) == (n : Int)) = true := by simp
    have g2 : ((n : Int) != (n : Int)) = false := by simp
    clear h h' h1 h2 hx hy hr
    go_enter Try.func58, Try.ntmps58
    go_wp2
    go_loopw [13] (fun i wr => ∃ k q : Nat, k ≤ n ∧ i = .int .i64 k ∧ wr = w.drewN q ∧ ∀ j, j < k → xs[j]?.getD 0 = ys[j]?.getD 0) (fun i _ => n - (intOf i).toNat)
    case atStart => exact ⟨0, 0, Nat.zero_le _, rfl, rfl, fun j hj => absurd hj (Nat.not_lt_zero _)⟩
    case round =>
      obtain ⟨k, q, hk, rfl, hw, hall⟩ := hrel
      have HW := Lib.hid hw
      have HA := Lib.hid hall
      by_cases hlt : k < n
      · rcases H1.out with h0 | ⟨b1, o1, rfl, hc1⟩
        · omega
        rcases H2.out with h0 | ⟨b2, o2, rfl, hc2⟩
        · omega
        have k1 : wr.cell? ⟨b1, o1 + k, none⟩ = some (.int .i64 (xs[k]?.getD 0)) := by rw [hw]; exact hc1 k hlt
        have k2 : wr.cell? ⟨b2, o2 + k, none⟩ = some (.int .i64 (ys[k]?.getD 0)) := by rw [hw]; exact hc2 k hlt
        obtain ⟨x, hxx⟩ : ∃ x, xs[k]?.getD 0 = x := ⟨_, rfl⟩
        obtain ⟨y, hyy⟩ : ∃ y, ys[k]?.getD 0 = y := ⟨_, rfl⟩
        rw [hxx] at k1
        rw [hyy] at k2
        have i1 : (k : Int) < (n : Int) := by omega
        by_cases hxy : x = y
        · subst hxy
          have HN := Lib.hid (show ∀ j, j < k + 1 → xs[j]?.getD 0 = ys[j]?.getD 0 from fun j hj => by
            by_cases e : j = k
            · subst e; rw [hxx, hyy]
            · exact HA.out j (by omega))
          have e1 : (x == x) = true := by simp
          have e2 : (x != x) = false := by simp
          clear hxx hyy hall hw hc1 hc2
          go_wp2
          go_quiet (fail)
          go_wp2
          go_roundw
          case rel => exact ⟨k + 1, _, by omega, by go_num, by rw [HW.out, World.drewN_drewN], HN.out⟩
          case measure => simp [intOf]; omega
        · have HB := Lib.hid (show r = false by rw [← HR.out]; exact sameL_at (k := k) (by rw [hxx, hyy]; exact hxy))
          have e1 : (x == y) = false := by simpa using hxy
          have e2 : (x != y) = true := by simpa using hxy
          clear hxx hyy hall hw hc1 hc2
          go_wp2
          go_quiet (fail)
          go_wp2
          go_ret
          exact ⟨retB HB.out.symm, _, by rw [HW.out, World.drewN_drewN]⟩
      · obtain rfl : n = k := by omega
        have HB := Lib.hid (show r = true by rw [← HR.out]; exact sameL_all (by rw [HX.out, HY.out]) (by rw [HX.out]; exact HA.out))
        clear hall hw
        go_wp2
        go_ret
        exact ⟨retB HB.out.symm, _, HW.out⟩
  · have HB := Lib.hid (show r = false by rw [← hr]; exact sameL_len (by rw [hx, hy]; exact hl))
    have g1 : ((n : Int) == (m : Int)) = false := by simp; omega
    have g2 : ((n : Int) != (m : Int)) = true := by simp; omega
    clear h h' h1 h2 hx hy hr hl
    go_enter Try.func58, Try.ntmps58
    go_wp2
    go_ret
    exact ⟨retB HB.out.symm, 0, rfl⟩
set_option maxHeartbeats 1000000 in
theorem c_spec_l00Same (a b : Option Addr) (n m c c' : Nat) (xs ys : List Int) (w : World) {r : Bool} (hr : sameL xs ys = r) (hn : n ≤ maxLen) (hm : m ≤ maxLen) (h : Reads w a n (ints xs)) (h' : Reads w b m (ints ys)) :
    Calls Try.prog 57 #[.slice a n c, .slice b m c'] w fun e w' => e = .returned (.bool r) ∧ ∃ q, w' = w.drewN q := by
  unfold maxLen at hn hm
  obtain ⟨hx, h1⟩ := h.int
  obtain ⟨hy, h2⟩ := h'.int
  by_cases hl : n = m
  · subst hl
    have H1 := Lib.hid h1
    have H2 := Lib.hid h2
    have HX := Lib.hid hx
    have HY := Lib.hid hy
    have HR := Lib.hid hr
    have g1 : ((n : Int) == (n : Int)) = true := by simp
    have g2 : ((n : Int) != (n : Int)) = false := by simp
    clear h h' h1 h2 hx hy hr
    go_enter Try.func57, Try.ntmps57
    go_wp2
    go_loopw [5] (fun i wr => ∃ k q : Nat, k ≤ n ∧ i = .int .i64 k ∧ wr = w.drewN q ∧ ∀ j, j < k → xs[j]?.getD 0 = ys[j]?.getD 0) (fun i _ => n - (intOf i).toNat)
    case atStart => exact ⟨0, 0, Nat.zero_le _, rfl, rfl, fun j hj => absurd hj (Nat.not_lt_zero _)⟩
    case round =>
      obtain ⟨k, q, hk, rfl, hw, hall⟩ := hrel
      have HW := Lib.hid hw
      have HA := Lib.hid hall
      by_cases hlt : k < n
      · rcases H1.out with h0 | ⟨b1, o1, rfl, hc1⟩
        · omega
        rcases H2.out with h0 | ⟨b2, o2, rfl, hc2⟩
        · omega
        have k1 : wr.cell? ⟨b1, o1 + k, none⟩ = some (.int .i64 (xs[k]?.getD 0)) := by rw [hw]; exact hc1 k hlt
        have k2 : wr.cell? ⟨b2, o2 + k, none⟩ = some (.int .i64 (ys[k]?.getD 0)) := by rw [hw]; exact hc2 k hlt
        obtain ⟨x, hxx⟩ : ∃ x, xs[k]?.getD 0 = x := ⟨_, rfl⟩
        obtain ⟨y, hyy⟩ : ∃ y, ys[k]?.getD 0 = y := ⟨_, rfl⟩
        rw [hxx] at k1
        rw [hyy] at k2
        have i1 : (k : Int) < (n : Int) := by omega
        by_cases hxy : x = y
        · subst hxy
          have HN := Lib.hid (show ∀ j, j < k + 1 → xs[j]?.getD 0 = ys[j]?.getD 0 from fun j hj => by
            by_cases e : j = k
            · subst e; rw [hxx, hyy]
            · exact HA.out j (by omega))
          have e1 : (x == x) = true := by simp
          have e2 : (x != x) = false := by simp
          clear hxx hyy hall hw hc1 hc2
          go_wp2
          go_quiet (fail)
          go_wp2
          go_roundw
          case rel => exact ⟨k + 1, _, by omega, by go_num, by rw [HW.out, World.drewN_drewN], HN.out⟩
          case measure => simp [intOf]; omega
        · have HB := Lib.hid (show r = false by rw [← HR.out]; exact sameL_at (k := k) (by rw [hxx, hyy]; exact hxy))
          have e1 : (x == y) = false := by simpa using hxy
          have e2 : (x != y) = true := by simpa using hxy
          clear hxx hyy hall hw hc1 hc2
          go_wp2
          go_quiet (fail)
          go_wp2
          go_ret
          exact ⟨retB HB.out.symm, _, by rw [HW.out, World.drewN_drewN]⟩
      · obtain rfl : n = k := by omega
        have HB := Lib.hid (show r = true by rw [← HR.out]; exact sameL_all (by rw [HX.out, HY.out]) (by rw [HX.out]; exact HA.out))
        clear hall hw
        go_wp2
        go_ret
        exact ⟨retB HB.out.symm, _, HW.out⟩
  · have HB := Lib.hid (show r = false by rw [← hr]; exact sameL_len (by rw [hx, hy]; exact hl))
    have g1 : ((n : Int) == (m : Int)) = false := by simp; omega
    have g2 : ((n : Int) != (m : Int)) = true := by simp; omega
    clear h h' h1 h2 hx hy hr hl
    go_enter Try.func57, Try.ntmps57
    go_wp2
    go_ret
    exact ⟨retB HB.out.symm, 0, rfl⟩
set_option maxHeartbeats 1000000 in
theorem c_spec_SameCells (W D S : Int) (a : Option Addr) (n cap : Nat) (zs : List Int) (W' D' S' : Int) (a' : Option Addr) (n' cap' : Nat) (ys : List Int) (w : World) {r : Bool} (hr : sameC W D S zs W' D' S' ys = r) (hm : n ≤ maxLen) (h : Reads w a n (ints zs)) (hm' : n' ≤ maxLen) (h' : Reads w a' n' (ints ys)) :
    Calls Try.prog 20 #[.agg #[.int .i64 W, .int .i64 D, .int .i64 S, .slice a n cap], .agg #[.int .i64 W', .int .i64 D', .int .i64 S', .slice a' n' cap']] w fun e w' => e = .returned (.bool r) ∧ Ext w w' := by
  have H := Lib.hid h
  have H' := Lib.hid h'
  have HM := Lib.hid hm
  have HM' := Lib.hid hm'
  clear h h' hm hm'
  by_cases e1 : W = W'
  · by_cases e2 : D = D'
    · by_cases e3 : S = S'
      · subst e1 e2 e3
        have HR := Lib.hid (show sameL zs ys = r by rw [← hr]; unfold sameC; simp)
        have g1 : (W == W) = true := by simp
        have g2 : (D == D) = true := by simp
        have g3 : (S == S) = true := by simp
        clear hr
        go_enter Try.func20, Try.ntmps20
        go_wp2_with (go_at_call 57; refine (c_spec_l00Same _ _ _ _ _ _ zs ys _ HR.out HM.out HM'.out (H.out.on (by (repeat (first | assumption | exact Ext.refl _ | (with_reducible refine Ext.stepS ?_ (by first | exact Nat.le_refl _ | (simp; done) | (simp; omega)) _) | (with_reducible refine Ext.stepN ?_ _) | (with_reducible refine Ext.stepD ?_) | (with_reducible refine Ext.stepA ?_ _))))) (H'.out.on (by (repeat (first | assumption | exact Ext.refl _ | (with_reducible refine Ext.stepS ?_ (by first | exact Nat.le_refl _ | (simp; done) | (simp; omega)) _) | (with_reducible refine Ext.stepN ?_ _) | (with_reducible refine Ext.stepD ?_) | (with_reducible refine Ext.stepA ?_ _)))))).mono ?_; rintro e u1 ⟨rfl, q, rfl⟩)
        go_ret
        exact ⟨rfl, by (repeat (first | assumption | exact Ext.refl _ | (with_reducible refine Ext.stepS ?_ (by first | exact Nat.le_refl _ | (simp; done) | (simp; omega)) _) | (with_reducible refine Ext.stepN ?_ _) | (with_reducible refine Ext.stepD ?_) | (with_reducible refine Ext.stepA ?_ _)))⟩
      · subst e1 e2
        have HR := Lib.hid (show r = false by rw [← hr]; unfold sameC; simp [e3])
        have g1 : (W == W) = true := by simp
        have g2 : (D == D) = true := by simp
        have g3 : (S == S') = false := by simpa using e3
        clear hr e3
        go_enter Try.func20, Try.ntmps20
        go_wp2
        go_ret
        exact ⟨retB HR.out.symm, by (repeat (first | assumption | exact Ext.refl _ | (with_reducible refine Ext.stepS ?_ (by first | exact Nat.le_refl _ | (simp; done) | (simp; omega)) _) | (with_reducible refine Ext.stepN ?_ _) | (with_reducible refine Ext.stepD ?_) | (with_reducible refine Ext.stepA ?_ _)))⟩
    · subst e1
      have HR := Lib.hid (show r = false by rw [← hr]; unfold sameC; simp [e2])
      have g1 : (W == W) = true := by simp
      have g2 : (D == D') = false := by simpa using e2
      clear hr e2
      go_enter Try.func20, Try.ntmps20
      go_wp2
      go_ret
      exact ⟨retB HR.out.symm, by (repeat (first | assumption | exact Ext.refl _ | (with_reducible refine Ext.stepS ?_ (by first | exact Nat.le_refl _ | (simp; done) | (simp; omega)) _) | (with_reducible refine Ext.stepN ?_ _) | (with_reducible refine Ext.stepD ?_) | (with_reducible refine Ext.stepA ?_ _)))⟩
  · have HR := Lib.hid (show r = false by rw [← hr]; unfold sameC; simp [e1])
    have g1 : (W == W') = false := by simpa using e1
    clear hr e1
    go_enter Try.func20, Try.ntmps20
    go_wp2
    go_ret
    exact ⟨retB HR.out.symm, by (repeat (first | assumption | exact Ext.refl _ | (with_reducible refine Ext.stepS ?_ (by first | exact Nat.le_refl _ | (simp; done) | (simp; omega)) _) | (with_reducible refine Ext.stepN ?_ _) | (with_reducible refine Ext.stepD ?_) | (with_reducible refine Ext.stepA ?_ _)))⟩
def shapeB (W D S W' D' S' : Int) : Bool := (W == W') && (D == D') && (S == S')
theorem shape_eq (W D S W' D' S' : Int) (w : World) : (binOp .eql 61 (.agg #[.int .i64 W, .int .i64 D, .int .i64 S]) (.agg #[.int .i64 W', .int .i64 D', .int .i64 S'])).run Try.prog w = .ok (.bool (shapeB W D S W' D' S')) w := by
  have u3 := Try.underlying2
  have a3 := Try.isAgg2
  have z3 := Try.sizeOf2
  have hS : Try.prog.underlying 61 = some (.struct (Try.prog.fieldsOf 61)) := by kernel_rfl
  have hp : Try.prog.stoodInHeld 61 = false := by kernel_rfl
  rw [run_eql_struct, show (10000 : Nat) = 9999 + 1 from rfl, run_equalIn_agg w 9999 61 _ _ hS hp]
  simp only [Program.fieldsOf, Try.underlying61]
  go_simp
  unfold shapeB
  by_cases h1 : W = W' <;> by_cases h2 : D = D' <;> by_cases h3 : S = S' <;> simp [h1, h2, h3]
theorem shape_guard (x y : Operand) (W D S W' D' S' : Int) (w : World) : (eqGuard .eql 61 x y (.agg #[.int .i64 W, .int .i64 D, .int .i64 S]) (.agg #[.int .i64 W', .int .i64 D', .int .i64 S'])).run Try.prog w = .ok () w :=
  run_eqGuard_agg w .eql 61 x y _ _ (by kernel_rfl)
end Go.Proofs.Ytjckikcndoobnaa
