/- Lists of floats compared: both sides. -/
import Derived.Test.YtmgkbgdbahijnaaYva
import Derived.Laws.StructEq
namespace Go.Proofs.Ytmgkbgdbahijnaa
open Go.ChangeShapes Go.WideShapes Go.ChangeAt Go.RowKit Go.Proofs.Ytmgkbgdbahijnaa.Flo
set_option linter.unusedVariables false
def sameN (x y : Nat) : Bool := (((fv .f32 x).getD 2143289344 : Nat) == ((fv .f32 y).getD 2143289344 : Nat))
def sameF (xs ys : List Nat) : Bool := decide (xs.length = ys.length) && allTo xs.length fun i => sameN (getN xs i) (getN ys i)
theorem sameF_len {xs ys : List Nat} (h : xs.length ≠ ys.length) : sameF xs ys = false := by unfold sameF; rw [decide_eq_false h]; rfl
theorem sameF_at {xs ys : List Nat} {k : Nat} (hk : k < xs.length) (h : sameN (getN xs k) (getN ys k) = false) : sameF xs ys = false := by unfold sameF; rw [allTo_no hk h]; simp
theorem sameF_all {xs ys : List Nat} (h : xs.length = ys.length) (ha : ∀ i, i < xs.length → sameN (getN xs i) (getN ys i) = true) : sameF xs ys = true := by unfold sameF; rw [decide_eq_true h, allTo_yes ha]; rfl
theorem c_impl_SameNumber_b (x y : Nat) (w : World) {r : Bool} (hr : sameN x y = r) (h : x < 4294967296) (h' : y < 4294967296) : Calls Try.prog 65 #[.float .f32 x, .float .f32 y] w fun e w' => e = .returned (.bool r) ∧ ∃ n, w' = w.drewN n := by
  subst hr; exact c_impl_SameNumber x y w h h'
theorem c_spec_l01Same_b (x y : Nat) (w : World) {r : Bool} (hr : sameN x y = r) (h : x < 4294967296) (h' : y < 4294967296) : Calls Try.prog 104 #[.float .f32 x, .float .f32 y] w fun e w' => e = .returned (.bool r) ∧ ∃ n, w' = w.drewN n := by
  subst hr; exact c_spec_l01Same x y w h h'
theorem q_more2 {P : Program} {f : FuncId} {args : Array Value} {w : World} {a n : Nat} {v : Value} (h : Calls P f args (w.drewN (a + n)) fun e w' => e = .returned v ∧ ∃ m, w' = (w.drewN (a + n)).drewN m) :
    Calls P f args (w.drewN (a + n)) fun e w' => e = .returned v ∧ ∃ m, w' = w.drewN (a + m) := by
  refine h.mono ?_
  rintro e w' ⟨he, m, rfl⟩
  exact ⟨he, n + m, by rw [World.drewN_drewN, Nat.add_assoc]⟩
theorem bit_at {zs : List Nat} (hb : ∀ z ∈ zs, z < 4294967296) {i : Nat} (h : i < zs.length) : zs[i]?.getD 0 < 4294967296 := by
  rw [List.getElem?_eq_getElem h]; exact hb _ (List.getElem_mem h)
set_option maxHeartbeats 1000000 in
theorem c_EqualFuncF (a b : Option Addr) (n m c c' : Nat) (xs ys : List Nat) (w : World) {r : Bool} (hr : sameF xs ys = r) (hn : n ≤ maxLen) (hm : m ≤ maxLen) (h : Reads w a n (flos xs)) (h' : Reads w b m (flos ys)) (hbx : ∀ z ∈ xs, z < 4294967296) (hby : ∀ z ∈ ys, z < 4294967296) :
    Calls Try.prog 64 #[.slice a n c, .slice b m c', .func (.func 65) #[] #[]] w fun e w' => e = .returned (.bool r) ∧ ∃ q, w' = w.drewN q := by
  unfold maxLen at hn hm
  obtain ⟨hx, h1⟩ := h.flo
  obtain ⟨hy, h2⟩ := h'.flo
  have BXX := Lib.hid hbx
  have BYY := Lib.hid hby
  by_cases hl : n = m
  · subst hl
    have H1 := Lib.hid h1
    have H2 := Lib.hid h2
    have HX := Lib.hid hx
    have HY := Lib.hid hy
    have HR := Lib.hid hr
    have g1 : ((n : Int) == (n : Int)) = true := by simp
    have g2 : ((n : Int) != (n : Int)) = false := by simp
    clear h h' h1 h2 hx hy hr hbx hby
    go_enter Try.func64, Try.ntmps64
    go_wp2
    go_loopw [17] (fun i wr => ∃ k q : Nat, k ≤ n ∧ i = .int .i64 k ∧ wr = w.drewN q ∧ ∀ j, j < k → sameN (getN xs j) (getN ys j) = true) (fun i _ => n - (intOf i).toNat)
    case atStart => exact ⟨0, 0, Nat.zero_le _, rfl, rfl, fun j hj => absurd hj (Nat.not_lt_zero _)⟩
    case round =>
      obtain ⟨k, q, hk, rfl, hw, hall⟩ := hrel
      have HW := Lib.hid hw
      have HA := Lib.hid hall
      by_cases hlt : k < n
      · rcases H1.out with h0 | ⟨b1, o1, rfl, hc1⟩
        · omega
        rcases H2.out with h0 | ⟨b2, o2, rfl, hc2⟩
        · omega
        have k1 : wr.cell? ⟨b1, o1 + k, none⟩ = some (.float .f32 (xs[k]?.getD 0)) := by rw [hw]; exact hc1 k hlt
        have k2 : wr.cell? ⟨b2, o2 + k, none⟩ = some (.float .f32 (ys[k]?.getD 0)) := by rw [hw]; exact hc2 k hlt
        have bx := bit_at BXX.out (i := k) (by rw [HX.out]; exact hlt)
        have bb := bit_at BYY.out (i := k) (by rw [HY.out]; exact hlt)
        obtain ⟨x, hxx⟩ : ∃ x, xs[k]?.getD 0 = x := ⟨_, rfl⟩
        obtain ⟨y, hyy⟩ : ∃ y, ys[k]?.getD 0 = y := ⟨_, rfl⟩
        rw [hxx] at k1 bx
        rw [hyy] at k2 bb
        have hxx' : getN xs k = x := hxx
        have hyy' : getN ys k = y := hyy
        have HBX := Lib.hid bx
        have HBY := Lib.hid bb
        have i1 : (k : Int) < (n : Int) := by omega
        cases hxy : sameN x y
        · have HB := Lib.hid (show r = false by rw [← HR.out]; exact sameF_at (k := k) (by rw [HX.out]; exact hlt) (by rw [hxx', hyy']; exact hxy))
          have HXY := Lib.hid hxy
          clear hxx hyy hxx' hyy' hall hw hc1 hc2 bx bb hxy
          go_wp2_with (go_at_call 65; refine (c_impl_SameNumber_b x y _ HXY.out HBX.out HBY.out).mono ?_; rintro e w' ⟨rfl, q2, rfl⟩)
          go_ret
          exact ⟨retB HB.out.symm, _, by rw [HW.out, World.drewN_drewN]⟩
        · have HN := Lib.hid (show ∀ j, j < k + 1 → sameN (getN xs j) (getN ys j) = true from fun j hj => by
            by_cases e : j = k
            · subst e; rw [hxx', hyy']; exact hxy
            · exact HA.out j (by omega))
          have HXY := Lib.hid hxy
          clear hxx hyy hxx' hyy' hall hw hc1 hc2 bx bb hxy
          go_wp2_with (go_at_call 65; refine (c_impl_SameNumber_b x y _ HXY.out HBX.out HBY.out).mono ?_; rintro e w' ⟨rfl, q2, rfl⟩)
          go_roundw
          case rel => exact ⟨k + 1, _, by omega, by go_num, by rw [HW.out, World.drewN_drewN], HN.out⟩
          case measure => simp [intOf]; omega
      · obtain rfl : n = k := by omega
        have HB := Lib.hid (show r = true by rw [← HR.out]; exact sameF_all (by rw [HX.out, HY.out]) (by rw [HX.out]; exact HA.out))
        clear hall hw
        go_wp2
        go_ret
        exact ⟨retB HB.out.symm, _, HW.out⟩
  · have HB := Lib.hid (show r = false by rw [← hr]; exact sameF_len (by rw [hx, hy]; exact hl))
    have g1 : ((n : Int) == (m : Int)) = false := beq_eq_false_iff_ne.2 (by omega)
    have g2 : ((n : Int) != (m : Int)) = true := by simp; omega
    clear h h' h1 h2 hx hy hr hl hbx hby
    go_enter Try.func64, Try.ntmps64
    go_wp2
    go_ret
    exact ⟨retB HB.out.symm, 0, rfl⟩
set_option maxHeartbeats 1000000 in
theorem c_spec_l01SameAll (a b : Option Addr) (n m c c' : Nat) (xs ys : List Nat) (w : World) {r : Bool} (hr : sameF xs ys = r) (hn : n ≤ maxLen) (hm : m ≤ maxLen) (h : Reads w a n (flos xs)) (h' : Reads w b m (flos ys)) (hbx : ∀ z ∈ xs, z < 4294967296) (hby : ∀ z ∈ ys, z < 4294967296) :
    Calls Try.prog 62 #[.slice a n c, .slice b m c'] w fun e w' => e = .returned (.bool r) ∧ ∃ q, w' = w.drewN q := by
  unfold maxLen at hn hm
  obtain ⟨hx, h1⟩ := h.flo
  obtain ⟨hy, h2⟩ := h'.flo
  have BXX := Lib.hid hbx
  have BYY := Lib.hid hby
  by_cases hl : n = m
  · subst hl
    have H1 := Lib.hid h1
    have H2 := Lib.hid h2
    have HX := Lib.hid hx
    have HY := Lib.hid hy
    have HR := Lib.hid hr
    have g1 : ((n : Int) == (n : Int)) = true := by simp
    have g2 : ((n : Int) != (n : Int)) = false := by simp
    clear h h' h1 h2 hx hy hr hbx hby
    go_enter Try.func62, Try.ntmps62
    go_wp2
    go_loopw [5] (fun i wr => ∃ k q : Nat, k ≤ n ∧ i = .int .i64 k ∧ wr = w.drewN q ∧ ∀ j, j < k → sameN (getN xs j) (getN ys j) = true) (fun i _ => n - (intOf i).toNat)
    case atStart => exact ⟨0, 0, Nat.zero_le _, rfl, rfl, fun j hj => absurd hj (Nat.not_lt_zero _)⟩
    case round =>
      obtain ⟨k, q, hk, rfl, hw, hall⟩ := hrel
      have HW := Lib.hid hw
      have HA := Lib.hid hall
      by_cases hlt : k < n
      · rcases H1.out with h0 | ⟨b1, o1, rfl, hc1⟩
        · omega
        rcases H2.out with h0 | ⟨b2, o2, rfl, hc2⟩
        · omega
        have k1 : wr.cell? ⟨b1, o1 + k, none⟩ = some (.float .f32 (xs[k]?.getD 0)) := by rw [hw]; exact hc1 k hlt
        have k2 : wr.cell? ⟨b2, o2 + k, none⟩ = some (.float .f32 (ys[k]?.getD 0)) := by rw [hw]; exact hc2 k hlt
        have bx := bit_at BXX.out (i := k) (by rw [HX.out]; exact hlt)
        have bb := bit_at BYY.out (i := k) (by rw [HY.out]; exact hlt)
        obtain ⟨x, hxx⟩ : ∃ x, xs[k]?.getD 0 = x := ⟨_, rfl⟩
        obtain ⟨y, hyy⟩ : ∃ y, ys[k]?.getD 0 = y := ⟨_, rfl⟩
        rw [hxx] at k1 bx
        rw [hyy] at k2 bb
        have hxx' : getN xs k = x := hxx
        have hyy' : getN ys k = y := hyy
        have HBX := Lib.hid bx
        have HBY := Lib.hid bb
        have i1 : (k : Int) < (n : Int) := by omega
        cases hxy : sameN x y
        · have HB := Lib.hid (show r = false by rw [← HR.out]; exact sameF_at (k := k) (by rw [HX.out]; exact hlt) (by rw [hxx', hyy']; exact hxy))
          have HXY := Lib.hid hxy
          clear hxx hyy hxx' hyy' hall hw hc1 hc2 bx bb hxy
          go_upto_region 6 with fail
          go_quiet ((go_at_call 104; exact Calls.quiet_of (c_spec_l01Same_b x y _ HXY.out HBX.out HBY.out)))
          go_wp2
          go_ret
          exact ⟨retB HB.out.symm, _, by rw [HW.out, World.drewN_drewN]⟩
        · have HN := Lib.hid (show ∀ j, j < k + 1 → sameN (getN xs j) (getN ys j) = true from fun j hj => by
            by_cases e : j = k
            · subst e; rw [hxx', hyy']; exact hxy
            · exact HA.out j (by omega))
          have HXY := Lib.hid hxy
          clear hxx hyy hxx' hyy' hall hw hc1 hc2 bx bb hxy
          go_upto_region 6 with fail
          go_quiet ((go_at_call 104; exact Calls.quiet_of (c_spec_l01Same_b x y _ HXY.out HBX.out HBY.out)))
          go_wp2
          go_roundw
          case rel => exact ⟨k + 1, _, by omega, by go_num, by rw [HW.out, World.drewN_drewN], HN.out⟩
          case measure => simp [intOf]; omega
      · obtain rfl : n = k := by omega
        have HB := Lib.hid (show r = true by rw [← HR.out]; exact sameF_all (by rw [HX.out, HY.out]) (by rw [HX.out]; exact HA.out))
        clear hall hw
        go_wp2
        go_ret
        exact ⟨retB HB.out.symm, _, HW.out⟩
  · have HB := Lib.hid (show r = false by rw [← hr]; exact sameF_len (by rw [hx, hy]; exact hl))
    have g1 : ((n : Int) == (m : Int)) = false := beq_eq_false_iff_ne.2 (by omega)
    have g2 : ((n : Int) != (m : Int)) = true := by simp; omega
    clear h h' h1 h2 hx hy hr hl hbx hby
    go_enter Try.func62, Try.ntmps62
    go_wp2
    go_ret
    exact ⟨retB HB.out.symm, 0, rfl⟩
end Go.Proofs.Ytmgkbgdbahijnaa
