/- Spans, times in order, CountExactly: both sides. -/
import Derived.Test.YtplngjbllllanaaWna
import Derived.Test.YtplngjbllllanaaBls
namespace Go.Proofs.Ytplngjbllllanaa
open Go.ChangeShapes Go.WideShapes Go.ChangeAt Go.RowKit
set_option linter.unusedVariables false
def hasB (t L x : Int) : Bool := decide (t - L < x) && decide (x ≤ t)
def spanB (t L : Int) : Bool := inB 0 t 1000000 && inB 1 L 1000000
def getB (bs : List Bool) (i : Nat) : Bool := bs[i]?.getD false
def cntX (t L : Int) (ts : List Int) (bs : List Bool) : Nat → Nat
  | 0 => 0
  | i + 1 => if getB bs i && hasB t L (getI ts i) then cntX t L ts bs i + 1 else cntX t L ts bs i
theorem cntX_yes {t L : Int} {ts : List Int} {bs : List Bool} {i : Nat} (h : (getB bs i && hasB t L (getI ts i)) = true) : cntX t L ts bs (i + 1) = cntX t L ts bs i + 1 := if_pos h
theorem cntX_no {t L : Int} {ts : List Int} {bs : List Bool} {i : Nat} (h : (getB bs i && hasB t L (getI ts i)) = false) : cntX t L ts bs (i + 1) = cntX t L ts bs i := if_neg (by rw [h]; decide)
theorem cntX_le (t L : Int) (ts : List Int) (bs : List Bool) : ∀ i, cntX t L ts bs i ≤ i
  | 0 => Nat.le_refl _
  | i + 1 => by
    have := cntX_le t L ts bs i
    cases h : (getB bs i && hasB t L (getI ts i))
    · rw [cntX_no h]; omega
    · rw [cntX_yes h]; omega
def timesC (ts : List Int) : Bool := (decide (1 ≤ ts.length) && decide (ts.length ≤ 128)) && timesB ts
def exactB (ts : List Int) (bs : List Bool) (t L : Int) : Bool := timesC ts && (decide (bs.length = ts.length) && spanB t L)
def exactR (ts : List Int) (bs : List Bool) (t L : Int) : Int × Bool := if exactB ts bs t L then (((cntX t L ts bs ts.length : Nat) : Int), true) else (0, false)
theorem exactR_yes {ts : List Int} {bs : List Bool} {t L : Int} (h : exactB ts bs t L = true) : exactR ts bs t L = (((cntX t L ts bs ts.length : Nat) : Int), true) := if_pos h
theorem exactR_no {ts : List Int} {bs : List Bool} {t L : Int} (h : exactB ts bs t L = false) : exactR ts bs t L = (0, false) := if_neg (by rw [h]; decide)
theorem c_impl_has (t L x : Int) (w : World) {b : Bool} (h : hasB t L x = b) (ht0 : 0 ≤ t) (ht1 : t ≤ 1000000) (hL0 : 1 ≤ L) (hL1 : L ≤ 1000000) : Calls Try.prog 137 #[.agg #[.int .i64 t, .int .i64 L], .int .i64 x] w fun e w' => e = .returned (.bool b) ∧ Ext w w' := by
  have BX := Lib.hid (Box.alloc w #[.int .i64 t, .int .i64 L] 150)
  obtain ⟨b0, b1⟩ := BX.out.two
  by_cases h1 : t - L < x
  · by_cases h2 : x ≤ t
    · have HR := Lib.hid (show b = true by rw [← h]; unfold hasB; rw [decide_eq_true h1, decide_eq_true h2]; rfl)
      clear h
      go_enter Try.func137, Try.ntmps137
      go_wp2
      go_ret
      exact ⟨retB (by first | (rw [HR.out]; done) | (rw [HR.out]; rfl) | (rw [HR.out]; simp; done) | (rw [HR.out]; simp; omega)), Ext.alloc _ _⟩
    · have HR := Lib.hid (show b = false by rw [← h]; unfold hasB; rw [decide_eq_true h1, decide_eq_false h2]; rfl)
      have h2' : t < x := by omega
      clear h
      go_enter Try.func137, Try.ntmps137
      go_wp2
      go_ret
      exact ⟨retB (by first | (rw [HR.out]; done) | (rw [HR.out]; rfl) | (rw [HR.out]; simp; done) | (rw [HR.out]; simp; omega)), Ext.alloc _ _⟩
  · have HR := Lib.hid (show b = false by rw [← h]; unfold hasB; rw [decide_eq_false h1]; rfl)
    have h1' : x ≤ t - L := by omega
    clear h
    go_enter Try.func137, Try.ntmps137
    go_wp2
    go_ret
    exact ⟨retB (by first | (rw [HR.out]; done) | (rw [HR.out]; rfl) | (rw [HR.out]; simp; done) | (rw [HR.out]; simp; omega)), Ext.alloc _ _⟩
end Go.Proofs.Ytplngjbllllanaa
