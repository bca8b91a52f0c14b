/- JoinLeast by the other side. -/
import Derived.Test.YtplngjbllllanaaDoorJle
namespace Go.Proofs.YtplngjbllllanaaDoor
open Go.ChangeShapes Go.WideShapes Go.ChangeAt Go.RowKit
set_option linter.unusedVariables false
def risB (zs : List Int) (room : Int) : Bool := decide ((zs.length : Int) ≤ room) && (keysB zs && riseB zs)
theorem leastB_ris (zs : List Int) (room : Int) : leastB zs room = (inB 1 room 256 && risB zs room) := rfl
theorem c_spec_l04Rising_g (a : Option Addr) (n cap : Nat) (zs : List Int) (room : Int) (w : World) {r : Bool} (hr : risB zs room = r) (hm : n ≤ 1048576) (hrm : room ≤ 256) (h : Reads w a n (ints zs)) :
    Calls Tryd.prog 21 #[.slice a n cap, .int .i64 room] w fun e w' => e = .returned (.bool r) ∧ ∃ q, w' = w.drewN q := by
  have hz := h.int.1
  unfold risB at hr
  by_cases h1 : (zs.length : Int) ≤ room
  · rw [decide_eq_true h1] at hr
    cases hk : keysB zs
    · rw [hk] at hr; cases hr
      exact c_spec_l04Rising_1 a n cap zs room w (.inl hk) (by unfold maxLen; omega) h
    · rw [hk] at hr
      exact c_spec_l04Rising a n cap zs room w (by simpa using hr) hk (by omega) (by omega) h
  · rw [decide_eq_false h1] at hr; cases hr
    exact c_spec_l04Rising_1 a n cap zs room w (.inr (by omega)) (by unfold maxLen; omega) h
end Go.Proofs.YtplngjbllllanaaDoor
