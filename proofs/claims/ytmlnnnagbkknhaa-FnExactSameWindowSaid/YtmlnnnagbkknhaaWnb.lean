/- Lists of integers compared (slices.Equal, l00Same, l06Equal). -/
import Derived.Test.YtmlnnnagbkknhaaCel
import Derived.Test.YtmlnnnagbkknhaaGri
import Derived.Deep.QuietTactic
import Derived.BigQuiet
namespace Go.Proofs.Ytmlnnnagbkknhaa
open Go.ChangeShapes Go.WideShapes Go.ChangeAt Go.RowKit
set_option linter.unusedVariables false
def sameL (xs ys : List Int) : Bool := decide (xs = ys)
theorem sameL_len {xs ys : List Int} (h : xs.length ≠ ys.length) : sameL xs ys = false := decide_eq_false fun e => h (by rw [e])
theorem sameL_at {xs ys : List Int} {k : Nat} (h : xs[k]?.getD 0 ≠ ys[k]?.getD 0) : sameL xs ys = false := decide_eq_false fun e => h (by rw [e])
theorem sameL_all {xs ys : List Int} (h : xs.length = ys.length) (ha : ∀ i, i < xs.length → xs[i]?.getD 0 = ys[i]?.getD 0) : sameL xs ys = true := by
  refine decide_eq_true (List.ext_getElem? fun i => ?_)
  by_cases hi : i < xs.length
  · have h1 := ha i hi
    rw [List.getElem?_eq_getElem hi, List.getElem?_eq_getElem (by omega)] at h1 ⊢
    simpa using h1
  · rw [List.getElem?_eq_none (by omega), List.getElem?_eq_none (by omega)]
set_option maxHeartbeats 1000000 in
theorem c_Equal (a b : Option Addr) (n m c c' : Nat) (xs ys : List Int) (w : World) {r : Bool} (hr : sameL xs ys = r) (hn : n ≤ maxLen) (hm : m ≤ maxLen) (h : Reads w a n (ints xs)) (h' : Reads w b m (ints ys)) :
    Calls Try.prog 50 #[.slice a n c, .slice b m c'] w fun e w' => e = .returned (.bool r) ∧ ∃ q, w' = w.drewN q := by
  unfold maxLen at hn hm
  obtain ⟨hx, h1⟩ := h.int
  obtain ⟨hy, h2⟩ := h'.int
  by_cases hl : n = m
  · subst hl
    have H1 := Lib.hid h1
    have H2 := Lib.hid h2
    have HX := Lib.hid hx
    have HY := Lib.hid hy
    have HR := Lib.hid hr
    have g1 : ((n : Int) == (n : Int)) = true := by simp
    have g2 : ((n : Int) != (n : Int)) = false := by simp
    clear h h' h1 h2 hx hy hr
    go_enter Try.func50, Try.ntmps50
    go_wp2
    go_loopw [13] (fun i wr => ∃ k q : Nat, k ≤ n ∧ i = .int .i64 k ∧ wr = w.drewN q ∧ ∀ j, j < k → xs[j]?.getD 0 = ys[j]?.getD 0) (fun i _ => n - (intOf i).toNat)
    case atStart => exact ⟨0, 0, Nat.zero_le _, rfl, rfl, fun j hj => absurd hj (Nat.not_lt_zero _)⟩
    case round =>
      obtain ⟨k, q, hk, rfl, hw, hall⟩ := hrel
      have HW := Lib.hid hw
      have HA := Lib.hid hall
      by_cases hlt : k < n
      · rcases H1.out with h0 | ⟨b1, o1, rfl, hc1⟩
        · omega
        rcases H2.out with h0 | ⟨b2, o2, rfl, hc2⟩
        · omega
        have k1 : wr.cell? ⟨b1, o1 + k, none⟩ = some (.int .i64 (xs[k]?.getD 0)) := by rw [hw]; exact hc1 k hlt
        have k2 : wr.cell? ⟨b2, o2 + k, none⟩ = some (.int .i64 (ys[k]?.getD 0)) := by rw [hw]; exact hc2 k hlt
        obtain ⟨x, hxx⟩ : ∃ x, xs[k]?.getD 0 = x := ⟨_, rfl⟩
        obtain ⟨y, hyy⟩ : ∃ y, ys[k]?.getD 0 = y := ⟨_, rfl⟩
        rw [hxx] at k1
        rw [hyy] at k2
        have i1 : (k : Int) < (n : Int) := by omega
        by_cases hxy : x = y
        · subst hxy
          have HN := Lib.hid (show ∀ j, j < k + 1 → xs[j]?.getD 0 = ys[j]?.getD 0 from fun j hj => by
            by_cases e : j = k
            · subst e; rw [hxx, hyy]
            · exact HA.out j (by omega))
          have e1 : (x == x) = true := by simp
          have e2 : (x != x) = false := by simp
          clear hxx hyy hall hw hc1 hc2
          go_wp2
          go_quiet (fail)
          go_wp2
          go_roundw
          case rel => exact ⟨k + 1, _, by omega, by go_num, by rw [HW.out, World.drewN_drewN], HN.out⟩
          case measure => simp [intOf]; omega
        · have HB := Lib.hid (show r = false by rw [← HR.out]; exact sameL_at (k := k) (by rw [hxx, hyy]; exact hxy))
          have e1 : (x == y) = false := by simpa using hxy
          have e2 : (x != y) = true := by simpa using hxy
          clear hxx hyy hall hw hc1 hc2
          go_wp2
          go_quiet (fail)
          go_wp2
          go_ret
          exact ⟨retB HB.out.symm, _, by rw [HW.out, World.drewN_drewN]⟩
      · obtain rfl : n = k := by omega
        have HB := Lib.hid (show r = true by rw [← HR.out]; exact sameL_all (by rw [HX.out, HY.out]) (by rw [HX.out]; exact HA.out))
        clear hall hw
        go_wp2
        go_ret
        exact ⟨retB HB.out.symm, _, HW.out⟩
  · have HB := Lib.hid (show r = false by rw [← hr]; exact sameL_len (by rw [hx, hy]; exact hl))
    have g1 : ((n : Int) == (m : Int)) = false := by simp; omega
    have g2 : ((n : Int) != (m : Int)) = true := by simp; omega
    clear h h' h1 h2 hx hy hr hl
    go_enter Try.func50, Try.ntmps50
    go_wp2
    go_ret
    exact ⟨retB HB.out.symm, 0, rfl⟩
set_option maxHeartbeats 1000000 in
theorem c_spec_l06Equal (a b : Option Addr) (n m c c' : Nat) (xs ys : List Int) (w : World) {r : Bool} (hr : sameL xs ys = r) (hn : n ≤ maxLen) (hm : m ≤ maxLen) (h : Reads w a n (ints xs)) (h' : Reads w b m (ints ys)) :
    Calls Try.prog 87 #[.slice a n c, .slice b m c'] w fun e w' => e = .returned (.bool r) ∧ ∃ q, w' = w.drewN q := by
  unfold maxLen at hn hm
  obtain ⟨hx, h1⟩ := h.int
  obtain ⟨hy, h2⟩ := h'.int
  by_cases hl : n = m
  · subst hl
    have H1 := Lib.hid h1
    have H2 := Lib.hid h2
    have HX := Lib.hid hx
    have HY := Lib.hid hy
    have HR := Lib.hid hr
    have g1 : ((n : Int) == (n : Int)) = true := by simp
    have g2 : ((n : Int) != (n : Int)) = false := by simp
    clear h h' h1 h2 hx hy hr
    go_enter Try.func87, Try.ntmps87
    go_wp2
    go_loopw [5] (fun i wr => ∃ k q : Nat, k ≤ n ∧ i = .int .i64 k ∧ wr = w.drewN q ∧ ∀ j, j < k → xs[j]?.getD 0 = ys[j]?.getD 0) (fun i _ => n - (intOf i).toNat)
    case atStart => exact ⟨0, 0, Nat.zero_le _, rfl, rfl, fun j hj => absurd hj (Nat.not_lt_zero _)⟩
    case round =>
      obtain ⟨k, q, hk, rfl, hw, hall⟩ := hrel
      have HW := Lib.hid hw
      have HA := Lib.hid hall
      by_cases hlt : k < n
      · rcases H1.out with h0 | ⟨b1, o1, rfl, hc1⟩
        · omega
        rcases H2.out with h0 | ⟨b2, o2, rfl, hc2⟩
        · omega
        have k1 : wr.cell? ⟨b1, o1 + k, none⟩ = some (.int .i64 (xs[k]?.getD 0)) := by rw [hw]; exact hc1 k hlt
        have k2 : wr.cell? ⟨b2, o2 + k, none⟩ = some (.int .i64 (ys[k]?.getD 0)) := by rw [hw]; exact hc2 k hlt
        obtain ⟨x, hxx⟩ : ∃ x, xs[k]?.getD 0 = x := ⟨_, rfl⟩
        obtain ⟨y, hyy⟩ : ∃ y, ys[k]?.getD 0 = y := ⟨_, rfl⟩
        rw [hxx] at k1
        rw [hyy] at k2
        have i1 : (k : Int) < (n : Int) := by omega
        by_cases hxy : x = y
        · subst hxy
          have HN := Lib.hid (show ∀ j, j < k + 1 → xs[j]?.getD 0 = ys[j]?.getD 0 from fun j hj => by
            by_cases e : j = k
            · subst e; rw [hxx, hyy]
            · exact HA.out j (by omega))
          have e1 : (x == x) = true := by simp
          have e2 : (x != x) = false := by simp
          clear hxx hyy hall hw hc1 hc2
          go_wp2
          go_quiet (fail)
          go_wp2
          go_roundw
          case rel => exact ⟨k + 1, _, by omega, by go_num, by rw [HW.out, World.drewN_drewN], HN.out⟩
          case measure => simp [intOf]; omega
        · have HB := Lib.hid (show r = false by rw [← HR.out]; exact sameL_at (k := k) (by rw [hxx, hyy]; exact hxy))
          have e1 : (x == y) = false := by simpa using hxy
          have e2 : (x != y) = true := by simpa using hxy
          clear hxx hyy hall hw hc1 hc2
          go_wp2
          go_quiet (fail)
          go_wp2
          go_ret
          exact ⟨retB HB.out.symm, _, by rw [HW.out, World.drewN_drewN]⟩
      · obtain rfl : n = k := by omega
        have HB := Lib.hid (show r = true by rw [← HR.out]; exact sameL_all (by rw [HX.out, HY.out]) (by rw [HX.out]; exact HA.out))
        clear hall hw
        go_wp2
        go_ret
        exact ⟨retB HB.out.symm, _, HW.out⟩
  · have HB := Lib.hid (show r = false by rw [← hr]; exact sameL_len (by rw [hx, hy]; exact hl))
    have g1 : ((n : Int) == (m : Int)) = false := by simp; omega
    have g2 : ((n : Int) != (m : Int)) = true := by simp; omega
    clear h h' h1 h2 hx hy hr hl
    go_enter Try.func87, Try.ntmps87
    go_wp2
    go_ret
    exact ⟨retB HB.out.symm, 0, rfl⟩
end Go.Proofs.Ytmlnnnagbkknhaa
