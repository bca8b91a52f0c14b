/- CountOfLeast: both sides. -/
import Derived.Test.YtplngjbllllanaaKey
import Derived.Test.YtplngjbllllanaaAll
import Derived.Test.YtplngjbllllanaaCon
import Derived.Test.YtplngjbllllanaaCfp
import Derived.Deep.RegionWith
import Derived.Deep.RegionHeld3
import Derived.Deep.DeepCutAuto
import Derived.Deep.LoopGhost
namespace Go.Proofs.Ytplngjbllllanaa
open Go.ChangeShapes Go.WideShapes Go.ChangeAt Go.RowKit Go.Proofs.Ytplngjbllllanaa.Flo
set_option linter.unusedVariables false
theorem flR_some {w : World} {op : BinOp} {k : FloatKind} {x y r : Nat} (h : floatBits op k x y = some r) : flR w op k x y = r := by unfold flR; rw [h]; rfl
theorem flD_some {op : BinOp} {k : FloatKind} {x y r : Nat} (h : floatBits op k x y = some r) : flD op k x y = 0 := by unfold flD; rw [h]; rfl
theorem inB_is_ {lo k hi : Int} : inB lo k hi = true ↔ lo ≤ k ∧ k ≤ hi := by unfold inB; exact decide_eq_true_iff
theorem retB_ {a b : Bool} (h : a = b) : Ending.returned (.bool a) = Ending.returned (.bool b) := by rw [h]
theorem dec_fin {b : Nat} {s : Bool} {m : Nat} {e : Int} (h : FloatKind.f32.decode b = .number s m e) : fv .f32 b = some b := fv_some (by rw [h]; rfl)
theorem fin_fv {b : Nat} (h : isFin .f32 b = true) : fv .f32 b = some b := by
  obtain ⟨s, m, e, hd⟩ := isFin_number h
  exact dec_fin hd
/-- strictly rising -/
def riseAt (zs : List Int) (i : Nat) : Bool := decide (i = 0 ∨ getI zs (i - 1) < getI zs i)
def riseB (zs : List Int) : Bool := allTo zs.length (riseAt zs)
def leastB (zs : List Int) (room : Int) : Bool := inB 1 room 256 && (decide ((zs.length : Int) ≤ room) && (keysB zs && riseB zs))
theorem leastB_1 {zs : List Int} {room : Int} (h : inB 1 room 256 = false) : leastB zs room = false := by unfold leastB; rw [h]; rfl
theorem leastB_2 {zs : List Int} {room : Int} (h : ¬ (zs.length : Int) ≤ room) : leastB zs room = false := by unfold leastB; rw [decide_eq_false h]; simp
theorem leastB_3 {zs : List Int} {room : Int} (h : keysB zs = false) : leastB zs room = false := by unfold leastB; rw [h]; simp
theorem leastB_4 {zs : List Int} {room : Int} (h : riseB zs = false) : leastB zs room = false := by unfold leastB; rw [h]; simp
theorem leastB_y {zs : List Int} {room : Int} (h1 : inB 1 room 256 = true) (h2 : (zs.length : Int) ≤ room) (h3 : keysB zs = true) (h4 : riseB zs = true) : leastB zs room = true := by unfold leastB; rw [h1, decide_eq_true h2, h3, h4]; rfl
theorem leastB_is {zs : List Int} {room : Int} (h : leastB zs room = true) : inB 1 room 256 = true ∧ (zs.length : Int) ≤ room ∧ keysB zs = true ∧ riseB zs = true := by
  unfold leastB at h
  simp only [Bool.and_eq_true, decide_eq_true_eq] at h
  exact ⟨h.1, h.2.1, h.2.2.1, h.2.2.2⟩
theorem keys_at {zs : List Int} (h : keysB zs = true) {i : Nat} (hi : i < zs.length) : 0 ≤ getI zs i ∧ getI zs i ≤ 4294967295 := by
  unfold keysB at h
  simp only [Bool.and_eq_true, decide_eq_true_eq, List.all_eq_true] at h
  have := h.2 (zs[i]) (List.getElem_mem hi)
  have e : getI zs i = zs[i] := by unfold getI; rw [List.getElem?_eq_getElem hi]; rfl
  rw [e]
  unfold keyB at this
  simp only [decide_eq_true_eq] at this
  omega
def countV (x room : Int) : Nat := ((floatBits .quo .f32 (floatOfInt .f32 (x + 1)) 1333788672).bind fun s => floatBits .quo .f32 (floatOfInt .f32 (room - 1)) s).getD 0
def countR (zs : List Int) (room : Int) : Option Nat × Bool :=
  if leastB zs room then (if (zs.length : Int) < room then some (floatOfInt .f32 (zs.length : Int)) else some (countV (getI zs (zs.length - 1)) room), true) else (some 0, false)
theorem countR_no {zs : List Int} {room : Int} (h : leastB zs room = false) : countR zs room = (some 0, false) := by unfold countR; rw [h]; rfl
theorem countR_lt {zs : List Int} {room : Int} (h : leastB zs room = true) (h' : (zs.length : Int) < room) : countR zs room = (some (floatOfInt .f32 (zs.length : Int)), true) := by unfold countR; rw [h, if_pos h']; rfl
theorem countR_eq {zs : List Int} {room : Int} (h : leastB zs room = true) (h' : ¬ (zs.length : Int) < room) : countR zs room = (some (countV (getI zs (zs.length - 1)) room), true) := by unfold countR; rw [h, if_neg h']; rfl
theorem count_ex {x room : Int} (h0 : 0 ≤ x) (h1 : x ≤ 4294967295) (hr : 1 ≤ room) (hr2 : room ≤ 256) : ∃ s, floatBits .quo .f32 (floatOfInt .f32 (x + 1)) 1333788672 = some s ∧ floatBits .quo .f32 (floatOfInt .f32 (room - 1)) s = some (countV x room) ∧ isFin .f32 (countV x room) = true := by
  obtain ⟨m, e, d1, d2, d3, d4⟩ := int_both (n := x + 1) (by omega) (by omega)
  obtain ⟨s, m', e', s1, s2, s3, s4⟩ := share32 d1 d2 d3 d4
  obtain ⟨sg, k, i, k1, k2⟩ := int_bd32 (n := room - 1) (by omega) (by omega)
  obtain ⟨r, r1, r2⟩ := count_fin k1 k2 s2 s3 s4
  have e1 : countV x room = r := by unfold countV; rw [s1, Option.bind_some, r1]; rfl
  exact ⟨s, s1, by rw [e1]; exact r1, by rw [e1]; exact r2⟩
theorem riseAt_0 (zs : List Int) : riseAt zs 0 = true := decide_eq_true (.inl rfl)
theorem riseAt_y {zs : List Int} {m : Nat} (h : getI zs m < getI zs (m + 1)) : riseAt zs (m + 1) = true := decide_eq_true (.inr h)
theorem riseAt_n {zs : List Int} {m : Nat} (h : ¬ getI zs m < getI zs (m + 1)) : riseAt zs (m + 1) = false := decide_eq_false (fun e => by
  rcases e with e | e
  · omega
  · exact h e)
theorem fv00 : fv .f32 0 = some 0 := fv_some (by rw [dec_zero]; rfl)
theorem c_spec_l02Number (x : Nat) (w : World) (h : isFin .f32 x = true) : Calls Try.prog 103 #[.float .f32 x] w fun e w' => e = .returned (.tuple #[.float .f32 x, .bool true]) ∧ ∃ q, w' = w.drewN q := by
  have C := fun (wx : World) => c_spec_l01Finite x wx
  rw [h] at C
  have HC := Lib.hid C
  clear C h
  go_enter Try.func103, Try.ntmps103
  go_wp2_with (go_at_call 68; refine (HC.out _).mono ?_; rintro e w' ⟨rfl, q, rfl⟩)
  go_ret2
  exact ⟨rfl, _, rfl⟩
end Go.Proofs.Ytplngjbllllanaa
