/- Cells: what the laws' helpers answer. -/
import Derived.Test.YtgejfeedcphfkaaDoorCis3
namespace Go.Proofs.YtgejfeedcphfkaaDoor
open Go.ChangeShapes Go.WideShapes Go.ChangeAt Go.RowKit
set_option linter.unusedVariables false
theorem Touch.stepS {lo hi : Nat} {w u : World} (h : Touch lo hi w u) {a : Addr} (h1 : lo ≤ a.block) (h2 : a.block < hi) (v : Value) : Touch lo hi w (u.setCell a v) := h.trans (Touch.setCell _ h1 h2 _)
theorem Touch.stepA {lo hi : Nat} {w u : World} (h : Touch lo hi w u) (o : Obj) : Touch lo hi w (u.alloc o) := h.trans (Touch.of_ext (Ext.alloc _ _) _ _)
theorem Touch.stepN {lo hi : Nat} {w u : World} (h : Touch lo hi w u) (n : Nat) : Touch lo hi w (u.drewN n) := h.trans (Touch.of_ext (Ext.drewN _ _) _ _)
theorem own_touch {t : TypeId} {u w' : World} {lo hi lo' hi' lo2 n c : Nat} {a : Option Addr} {vs : List Value} (h : Own t u lo hi a n c vs) (T : Touch lo' hi' u w') (hd : hi ≤ lo' ∨ hi' ≤ lo) (h1 : lo2 ≤ lo) (h2 : hi ≤ u.heap.size) : Own t w' lo2 w'.heap.size a n c vs :=
  (h.beside T hd).wide h1 (Nat.le_trans h2 T.size)
/-- marks in cells -/
def RetMarkC (t : TypeId) (lo hi : Nat) (a : Option Addr) (n c k : Nat) (w : World) (e : Ending) (w' : World) : Prop := RetMark t lo hi a n c k w e w'
theorem c_szI_ok (a : Option Addr) (n cap l : Nat) (w : World) (h : n ≤ l) (hl : l ≤ 1048576) : Calls Tryd.prog 41 #[.slice a n cap, .int .i64 l] w fun e w' => e = .returned (.int .i64 ((l - n : Nat) : Int)) ∧ w' = w := by
  have e : ((l - n : Nat) : Int) = (l : Int) - (n : Int) := by omega
  have h' : (n : Int) ≤ (l : Int) := by omega
  have hl' : (l : Int) ≤ 1048576 := by omega
  have E := Lib.hid e
  clear e
  go_enter Tryd.func41, Tryd.ntmps41
  go_wp2
  go_ret
  exact ⟨by rw [E.out]; rfl, rfl⟩
theorem c_szI_no (a : Option Addr) (n cap l : Nat) (w : World) (h : l < n) (hl : l ≤ 1048576) (hn : n ≤ maxLen) : Calls Tryd.prog 41 #[.slice a n cap, .int .i64 l] w fun e w' => e = .returned (.int .i64 (-1)) ∧ w' = w := by
  unfold maxLen at hn
  have h' : (l : Int) < (n : Int) := by omega
  have hl' : (l : Int) ≤ 1048576 := by omega
  go_enter Tryd.func41, Tryd.ntmps41
  go_wp2
  go_ret
  exact ⟨rfl, rfl⟩
end Go.Proofs.YtgejfeedcphfkaaDoor
