/- The median of a few numbers: sorted by insertion, on both sides. -/
import Derived.Test.YtplngjbllllanaaCis3
namespace Go.Proofs.Ytplngjbllllanaa
open Go.ChangeShapes Go.WideShapes Go.ChangeAt Go.RowKit
set_option linter.unusedVariables false
def medZ (zs : List Int) : Int := (sortN (zs.length - 1) zs)[(zs.length - 1) / 2]?.getD 0
def cmpZ (x y : Int) : Int := if x < y then -1 else if y < x then 1 else 0
theorem cmpZ_lt {x y : Int} (h : x < y) : cmpZ x y = -1 := if_pos h
theorem cmpZ_ge {x y : Int} (h : ¬ x < y) : cmpZ x y = 0 ∨ cmpZ x y = 1 := by
  unfold cmpZ; rw [if_neg h]; split
  · exact .inr rfl
  · exact .inl rfl
theorem touchOne {w u : World} {g : Nat} (h : Touch g (g + 1) w u) (i : Nat) (v : Value) : Touch g (g + 1) w (u.setCell ⟨g, i, none⟩ v) := h.trans (Touch.setCell _ (a := ⟨g, i, none⟩) (Nat.le_refl _) (Nat.lt_succ_self _) _)
theorem touchDrew {lo hi : Nat} {w u : World} (h : Touch lo hi w u) (n : Nat) : Touch lo hi w (u.drewN n) := h.trans (Touch.of_ext (Ext.drewN _ _) _ _)
theorem swap_row {zs : List Int} {f : Nat → Value} {w : World} {g c J i : Nat} {t : TypeId} {x y : Int} (h : w.rowIs g t c (rowT zs f)) (hJ : J < zs.length) (hi : i < zs.length) (hx : zs[J]?.getD 0 = x) (hy : zs[i]?.getD 0 = y) :
    ((w.setCell ⟨g, J, none⟩ (.int .i64 y)).setCell ⟨g, i, none⟩ (.int .i64 x)).rowIs g t c (rowT (swapL zs J i) f) := by
  have h1 := rowT_set h hJ y
  have h2 := rowT_set h1 (k := i) (by rw [List.length_set]; exact hi) x
  unfold swapL
  rw [hx, hy]
  exact h2
theorem c_cmpNaN (x : Int) (w : World) : Calls Try.prog 154 #[.int .i64 x] w fun e w' => e = .returned (.bool false) ∧ w = w' := by
  go_enter Try.func154, Try.ntmps154
  go_wp2
  go_ret
  exact ⟨rfl, rfl⟩
end Go.Proofs.Ytplngjbllllanaa
