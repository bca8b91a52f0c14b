/- CountOfLeast: both sides. -/
import Derived.Test.YtjnhflpoddpfnabCol
namespace Go.Proofs.Ytjnhflpoddpfnab
open Go.ChangeShapes Go.WideShapes Go.ChangeAt Go.RowKit Go.Proofs.Ytjnhflpoddpfnab.Flo
set_option linter.unusedVariables false
set_option maxHeartbeats 1000000 in
theorem c_impl_areLeast (a : Option Addr) (n cap : Nat) (zs : List Int) (room : Int) (w : World) {r : Bool} (hr : leastB zs room = r) (hm : n ≤ 1048576) (h : Reads w a n (ints zs)) :
    Calls Try.prog 84 #[.slice a n cap, .int .i64 room] w fun e w' => e = .returned (.bool r) ∧ ∃ q, w' = w.drewN q := by
  have hz := h.int.1
  have H := Lib.hid h
  have HM := Lib.hid (show n ≤ maxLen by unfold maxLen; omega)
  cases h1 : inB 1 room 256
  · have HT := Lib.hid (show r = false by rw [← hr]; exact leastB_1 h1)
    have HI := Lib.hid h1
    clear h hr h1
    go_enter Try.func84, Try.ntmps84
    go_wp2_with (go_at_call 81; refine (c_impl_isRoom _ _ HI.out).mono ?_; rintro e w' ⟨rfl, rfl⟩)
    go_ret
    exact ⟨retB_ (by rw [HT.out]), 0, rfl⟩
  have HI := Lib.hid h1
  have rr := inB_is_.1 h1
  by_cases h2 : (n : Int) ≤ room
  · have hn : n ≤ 256 := by omega
    have HN := Lib.hid hn
    cases h3 : keysB zs
    · have HT := Lib.hid (show r = false by rw [← hr]; exact leastB_3 h3)
      have H3 := Lib.hid h3
      clear h hr h1 h3 rr
      go_enter Try.func84, Try.ntmps84
      go_wp2_with (first | (go_at_call 81; refine (c_impl_isRoom _ _ HI.out).mono ?_; rintro e w' ⟨rfl, rfl⟩) | (go_at_call 80; refine (c_impl_AreKeys_k _ _ _ zs _ H3.out HM.out H.out).mono ?_; rintro e w' ⟨rfl, rfl⟩))
      go_ret
      exact ⟨retB_ (by rw [HT.out]), 0, rfl⟩
    · have HT := Lib.hid (show riseB zs = r by
        rw [← hr]
        cases h4 : riseB zs
        · exact (leastB_4 h4).symm
        · exact (leastB_y h1 (by rw [hz]; exact h2) h3 h4).symm)
      have H3 := Lib.hid h3
      clear h hr h1 h3 rr
      go_enter Try.func84, Try.ntmps84
      go_wp2_with (first | (go_at_call 81; refine (c_impl_isRoom _ _ HI.out).mono ?_; rintro e w' ⟨rfl, rfl⟩) | (go_at_call 80; refine (c_impl_AreKeys_k _ _ _ zs _ H3.out HM.out H.out).mono ?_; rintro e w' ⟨rfl, rfl⟩) | (go_at_call 107; refine (c_impl_areIncreasing _ _ _ zs _ HT.out HN.out H.out).mono ?_; rintro e w' ⟨rfl, q, rfl⟩))
      go_ret
      exact ⟨rfl, _, rfl⟩
  · have HT := Lib.hid (show r = false by rw [← hr]; exact leastB_2 (by rw [hz]; exact h2))
    clear h hr h1 rr
    go_enter Try.func84, Try.ntmps84
    go_wp2_with (go_at_call 81; refine (c_impl_isRoom _ _ HI.out).mono ?_; rintro e w' ⟨rfl, rfl⟩)
    go_ret
    exact ⟨retB_ (by rw [HT.out]), 0, rfl⟩
end Go.Proofs.Ytjnhflpoddpfnab
