/- MeetOfLeast: both sides. -/
import Derived.Test.YtjnhflpoddpfnabJlf
namespace Go.Proofs.Ytjnhflpoddpfnab
open Go.ChangeShapes Go.WideShapes Go.ChangeAt Go.RowKit Go.Shelf Go.Proofs.Ytjnhflpoddpfnab.Flo
set_option linter.unusedVariables false
attribute [local go_sem] run_fl_add run_fl_sub run_fl_mul run_fl_quo run_conv run_store_float run_store_complex
def meetC (xs ys L : List Int) : Nat → Nat
  | 0 => 0
  | k + 1 => meetC xs ys L k + (if xs.contains (getI L k) && ys.contains (getI L k) then 1 else 0)
theorem meetC_yes {xs ys L : List Int} {k : Nat} (h : (xs.contains (getI L k) && ys.contains (getI L k)) = true) : meetC xs ys L (k + 1) = meetC xs ys L k + 1 := by
  show meetC xs ys L k + _ = _; rw [h]; rfl
theorem meetC_no {xs ys L : List Int} {k : Nat} (h : (xs.contains (getI L k) && ys.contains (getI L k)) = false) : meetC xs ys L (k + 1) = meetC xs ys L k := by
  show meetC xs ys L k + _ = _; rw [h]; rfl
theorem meetC_le (xs ys L : List Int) : ∀ k, meetC xs ys L k ≤ k
  | 0 => Nat.le_refl _
  | k + 1 => by
    have := meetC_le xs ys L k
    cases h : xs.contains (getI L k) && ys.contains (getI L k)
    · rw [meetC_no h]; omega
    · rw [meetC_yes h]; omega
def meetV (c n : Nat) : Option Nat := fop .quo .f32 (fv .f32 (floatOfInt .f32 (c : Int))) (fv .f32 (floatOfInt .f32 (n : Int)))
def meetR (xs ys : List Int) (room : Int) : Option Nat × Bool :=
  if (jlR xs ys room).2 && decide (1 ≤ (jlR xs ys room).1.length) then (meetV (meetC xs ys (jlR xs ys room).1 (jlR xs ys room).1.length) (jlR xs ys room).1.length, true) else (some 0, false)
theorem meetR_no {xs ys : List Int} {room : Int} {L : List Int} {b : Bool} (h : jlR xs ys room = (L, b)) (h' : b = false ∨ L.length = 0) : meetR xs ys room = (some 0, false) := by
  unfold meetR
  rw [h]
  rcases h' with rfl | h'
  · rfl
  · rw [show (b && decide (1 ≤ L.length)) = false by rw [decide_eq_false (by omega)]; simp]; rfl
theorem meetR_yes {xs ys : List Int} {room : Int} {L : List Int} (h : jlR xs ys room = (L, true)) (h' : 1 ≤ L.length) : meetR xs ys room = (meetV (meetC xs ys L L.length) L.length, true) := by
  unfold meetR
  rw [h]
  rw [show (true && decide (1 ≤ L.length)) = true by rw [decide_eq_true h']; rfl]; rfl
theorem fvz : fv .f32 0 = some 0 := fv_some (by rw [dec_zero]; rfl)
theorem c_Contains (a : Option Addr) (n cap : Nat) (zs : List Int) (x : Int) (w : World) {b : Bool} (hb : zs.contains x = b) (hn : n ≤ 1048576) (h : Reads w a n (ints zs)) :
    Calls Try.prog 87 #[.slice a n cap, .int .i64 x] w fun e w' => e = .returned (.bool b) ∧ w = w' := by
  obtain ⟨hl, hr⟩ := h.int
  subst hb
  rcases hr with h0 | ⟨b, off, rfl, hc⟩
  · subst h0
    have hz : zs = [] := List.eq_nil_of_length_eq_zero hl
    subst hz
    have hcon := AnyG.slices_Contains_int_empty Sh.laysContains a cap x w
    change Calls Try.prog 87 _ _ _ at hcon
    refine hcon.mono ?_
    rintro e w' ⟨rfl, rfl⟩
    exact ⟨rfl, rfl⟩
  · have hcon := AnyG.slices_Contains_int Sh.laysContains b off n cap zs x w (by omega) (by omega) (fun j hj => by rw [hc j (by omega)]; simp [List.getD])
    change Calls Try.prog 87 _ _ _ at hcon
    refine hcon.mono ?_
    rintro e w' ⟨rfl, rfl⟩
    exact ⟨by rw [List.take_of_length_le (by omega)], rfl⟩
theorem c_spec_l04Has (a : Option Addr) (n cap : Nat) (zs : List Int) (x : Int) (w : World) {b : Bool} (hb : zs.contains x = b) (hn : n ≤ 1048576) (h : Reads w a n (ints zs)) :
    Calls Try.prog 86 #[.slice a n cap, .int .i64 x] w fun e w' => e = .returned (.bool b) ∧ w = w' := by
  obtain ⟨hl, hr⟩ := h.int
  have HR := Lib.hid hr
  have HB := Lib.hid hb
  have HL := Lib.hid hl
  have hn' : (n : Int) ≤ 1048576 := by omega
  clear hl hr h hb
  go_enter Try.func86, Try.ntmps86
  go_wp2
  go_loopw [5] (fun i wr => ∃ k : Nat, k ≤ n ∧ i = .int .i64 k ∧ (∀ j, j < k → getI zs j ≠ x) ∧ w = wr) (fun i _ => n - (intOf i).toNat)
  case atStart => exact ⟨0, Nat.zero_le _, rfl, fun j hj => absurd hj (Nat.not_lt_zero _), rfl⟩
  case round =>
    obtain ⟨k, hk, rfl, hno, rfl⟩ := hrel
    have HNO := Lib.hid hno
    by_cases hlt : k < n
    · have hlt' : (k : Int) < (n : Int) := by omega
      rcases HR.out with h0 | ⟨b0, off, rfl, hc⟩
      · omega
      obtain ⟨y, hy⟩ : ∃ y, zs[k]?.getD 0 = y := ⟨_, rfl⟩
      have hcell := hc k hlt
      rw [hy] at hcell
      have HY := Lib.hid (show getI zs k = y from hy)
      clear hc hno hy
      by_cases hyx : y = x
      · subst hyx
        have HT := Lib.hid (show b = true by
          rw [← HB.out, List.contains_iff_mem]
          have h1 := HY.out
          unfold getI at h1
          rw [List.getElem?_eq_getElem (by rw [HL.out]; exact hlt)] at h1
          simp only [Option.getD_some] at h1
          rw [← h1]; exact List.getElem_mem _)
        go_wp2
        go_ret
        exact ⟨retB HT.out.symm, rfl⟩
      · have hyx2 : (y == x) = false := by simpa using hyx
        go_wp2
        go_roundw
        case rel => exact ⟨k + 1, by omega, by go_num, fun j hj => by
          by_cases e : j = k
          · rw [e, HY.out]; exact hyx
          · exact HNO.out j (by omega), by first | rfl | trivial⟩
        case measure => simp [intOf]; omega
    · have hkn : k = n := by omega
      have HK := Lib.hid hkn
      have hlt' : ¬ (k : Int) < (n : Int) := by omega
      have HT := Lib.hid (show b = false by
        rw [← HB.out]
        cases hcc : zs.contains x
        · rfl
        · exfalso
          rw [List.contains_iff_mem] at hcc
          obtain ⟨i, hi, he⟩ := List.getElem_of_mem hcc
          refine HNO.out i (by rw [HK.out, ← HL.out]; exact hi) ?_
          unfold getI; rw [List.getElem?_eq_getElem hi]; exact he)
      clear hno hkn
      go_wp2
      go_ret
      exact ⟨retB HT.out.symm, rfl⟩
end Go.Proofs.Ytjnhflpoddpfnab
