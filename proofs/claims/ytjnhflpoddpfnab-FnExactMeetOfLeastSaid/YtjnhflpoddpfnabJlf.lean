/- JoinLeast by the other side. -/
import Derived.Test.YtjnhflpoddpfnabJle
namespace Go.Proofs.Ytjnhflpoddpfnab
open Go.ChangeShapes Go.WideShapes Go.ChangeAt Go.RowKit
set_option linter.unusedVariables false
def risB (zs : List Int) (room : Int) : Bool := decide ((zs.length : Int) ≤ room) && (keysB zs && riseB zs)
theorem leastB_ris (zs : List Int) (room : Int) : leastB zs room = (inB 1 room 256 && risB zs room) := rfl
theorem c_spec_l04Rising_g (a : Option Addr) (n cap : Nat) (zs : List Int) (room : Int) (w : World) {r : Bool} (hr : risB zs room = r) (hm : n ≤ 1048576) (hrm : room ≤ 256) (h : Reads w a n (ints zs)) :
    Calls Try.prog 83 #[.slice a n cap, .int .i64 room] w fun e w' => e = .returned (.bool r) ∧ ∃ q, w' = w.drewN q := by
  have hz := h.int.1
  unfold risB at hr
  by_cases h1 : (zs.length : Int) ≤ room
  · rw [decide_eq_true h1] at hr
    cases hk : keysB zs
    · rw [hk] at hr; cases hr
      exact c_spec_l04Rising_1 a n cap zs room w (.inl hk) (by unfold maxLen; omega) h
    · rw [hk] at hr
      exact c_spec_l04Rising a n cap zs room w (by simpa using hr) hk (by omega) (by omega) h
  · rw [decide_eq_false h1] at hr; cases hr
    exact c_spec_l04Rising_1 a n cap zs room w (.inr (by omega)) (by unfold maxLen; omega) h
set_option maxRecDepth 100000 in
set_option maxHeartbeats 2000000 in
theorem c_spec_JoinLeast (a1 : Option Addr) (n1 c1 : Nat) (xs : List Int) (a2 : Option Addr) (n2 c2 : Nat) (ys : List Int) (room : Int) (w : World) {rz : List Int} {rb : Bool} (hv : jlR xs ys room = (rz, rb)) (hm1 : n1 ≤ 1048576) (h1 : Reads w a1 n1 (ints xs)) (hm2 : n2 ≤ 1048576) (h2 : Reads w a2 n2 (ints ys)) (s1 : SlN a1 n1 c1) (s2 : SlN a2 n2 c2) :
    Calls Try.prog 37 #[.slice a1 n1 c1, .slice a2 n2 c2, .int .i64 room] w (RetSB 2 rz.length (ints rz) rb w) := by
  have H1 := Lib.hid h1
  have H2 := Lib.hid h2
  have M1 := Lib.hid hm1
  have M2 := Lib.hid hm2
  have S1 := Lib.hid s1
  have S2 := Lib.hid s2
  have L1 := Lib.hid h1.int.1
  have L2 := Lib.hid h2.int.1
  clear h1 h2 hm1 hm2 s1 s2
  cases hr : inB 1 room 256
  · rw [jlR_no (by rw [leastB_ris, hr]; rfl)] at hv
    cases hv
    have HR := Lib.hid hr
    clear hr
    go_enter Try.func37, Try.ntmps37
    go_wp2_with (go_at_call 77; refine (c_spec_l04Room room _ HR.out).mono ?_; rintro e w' ⟨rfl, rfl⟩)
    go_ret2
    exact RetSB.nil _ _
  have HR := Lib.hid hr
  have HB := Lib.hid (inB_is.1 hr)
  cases hx : risB xs room
  · rw [jlR_no (by rw [leastB_ris, hr, hx]; rfl)] at hv
    cases hv
    have HX := Lib.hid hx
    clear hx hr
    go_enter Try.func37, Try.ntmps37
    go_wp2_with (go_at_call 77; refine (c_spec_l04Room room _ HR.out).mono ?_; rintro e w' ⟨rfl, rfl⟩)
    refine (c_spec_l04Rising_g _ _ _ xs room _ HX.out M1.out HB.out.2 H1.out).mono ?_; rintro e u1 ⟨rfl, q1, rfl⟩
    go_wp2
    go_ret2
    exact ⟨none, 0, rfl, Own.nil _ _ _ _, Ext.drewN _ _⟩
  cases hy : risB ys room
  · rw [jlR_no (by rw [leastB_ris, leastB_ris, hr, hx, hy]; rfl)] at hv
    cases hv
    have HX := Lib.hid hx
    have HY := Lib.hid hy
    clear hx hy hr
    go_enter Try.func37, Try.ntmps37
    go_wp2_with (go_at_call 77; refine (c_spec_l04Room room _ HR.out).mono ?_; rintro e w' ⟨rfl, rfl⟩)
    refine (c_spec_l04Rising_g _ _ _ xs room _ HX.out M1.out HB.out.2 H1.out).mono ?_; rintro e u1 ⟨rfl, q1, rfl⟩
    go_wp2_with fail
    refine (c_spec_l04Rising_g _ _ _ ys room _ HY.out M2.out HB.out.2 (H2.out.on (Ext.drewN _ _))).mono ?_; rintro e u2 ⟨rfl, q2, rfl⟩
    go_wp2
    go_ret2
    exact ⟨none, 0, rfl, Own.nil _ _ _ _, by first | exact Ext.drewN _ _ | exact (Ext.drewN _ _).trans (Ext.drewN _ _)⟩
  · rw [jlR_yes (by rw [leastB_ris, leastB_ris, hr, hx, hy]; rfl)] at hv
    cases hv
    have HX := Lib.hid hx
    have HY := Lib.hid hy
    have HL := Lib.hid (show n1 + n2 ≤ 512 by
      have h3 := (least_room (show leastB xs room = true by rw [leastB_ris, hr, hx]; rfl)).2.1
      have h4 := (least_room (show leastB ys room = true by rw [leastB_ris, hr, hy]; rfl)).2.1
      have := HB.out.2; have := L1.out; have := L2.out; omega)
    obtain ⟨i0, hi, hz0, hz1, hz2⟩ := info_parts info_i64
    clear hx hy hr
    go_enter Try.func37, Try.ntmps37
    go_wp2_with (go_at_call 77; refine (c_spec_l04Room room _ HR.out).mono ?_; rintro e w' ⟨rfl, rfl⟩)
    refine (c_spec_l04Rising_g _ _ _ xs room _ HX.out M1.out HB.out.2 H1.out).mono ?_; rintro e u1 ⟨rfl, q1, rfl⟩
    go_wp2_with fail
    refine (c_spec_l04Rising_g _ _ _ ys room _ HY.out M2.out HB.out.2 (H2.out.on (Ext.drewN _ _))).mono ?_; rintro e u2 ⟨he2, q2, hu2⟩
    cases he2
    have X2 := Lib.hid (show Ext w u2 by rw [hu2]; first | exact Ext.drewN _ _ | exact (Ext.drewN _ _).trans (Ext.drewN _ _))
    clear hu2
    go_wp2_with (first | (have XX := X2.out; at_builtin; refine wpList_append_spread (w0 := w) rfl _ _ 22 rfl 2 i0 (.int .i64 0) Try.underlying22 hi hz0 hz1 hz2 rfl _ 0 [] rfl (XX.stepA _) (World.ownsRow_made _ _ _ XX.size (Nat.zero_le _) rfl) a1 n1 c1 xs rfl S1.out (H1.out.on (XX.stepA _)) (by have := HL.out; omega) ?_; intro v' w3 o3 x3; rw [Nat.zero_add, List.nil_append] at o3; have O3 := Lib.hid o3; have X3 := Lib.hid x3; clear o3 x3 XX X2) | (at_builtin; refine wpList_append_spread (w0 := w) rfl _ _ 22 rfl 2 i0 (.int .i64 0) Try.underlying22 hi hz0 hz1 hz2 rfl _ _ _ rfl X3.out O3.out a2 n2 c2 ys rfl S2.out (H2.out.on X3.out) (by have := HL.out; omega) ?_; intro v4 w4 o4 x4; obtain ⟨a5, c5, rfl, o5⟩ := Own.of_row (e := 0) o4; have O5 := Lib.hid (show Own 2 w4 w.heap.size w4.heap.size a5 (n1 + n2) c5 (ints (xs ++ ys)) by rw [ints_app]; exact o5); have X4 := Lib.hid x4; clear o4 x4 o5) | (go_at_call 78; refine (c_spec_l04Least _ _ _ (xs ++ ys) room _ (by have := HL.out; omega) HB.out.1 HB.out.2 O5.out.reads).mono ?_; rintro e u6 ⟨a6, c6, rfl, o6, x6⟩; have O6 := Lib.hid o6; have X6 := Lib.hid x6; clear o6 x6))
    go_ret2
    exact ⟨_, _, rfl, O6.out.wide X4.out.size (Nat.le_refl _), X4.out.trans X6.out⟩
end Go.Proofs.Ytjnhflpoddpfnab
