/- CountOfLeast: both sides. -/
import Derived.Test.YtmgkbgdbahijnacCol
namespace Go.Proofs.Ytmgkbgdbahijnac
open Go.ChangeShapes Go.WideShapes Go.ChangeAt Go.RowKit Go.Proofs.Ytmgkbgdbahijnac.Flo
set_option linter.unusedVariables false
set_option maxHeartbeats 1000000 in
theorem c_impl_areLeast (a : Option Addr) (n cap : Nat) (zs : List Int) (room : Int) (w : World) {r : Bool} (hr : leastB zs room = r) (hm : n ≤ 1048576) (h : Reads w a n (ints zs)) :
    Calls Try.prog 94 #[.slice a n cap, .int .i64 room] w fun e w' => e = .returned (.bool r) ∧ ∃ q, w' = w.drewN q := by
  have hz := h.int.1
  have H := Lib.hid h
  have HM := Lib.hid (show n ≤ maxLen by unfold maxLen; omega)
  cases h1 : inB 1 room 256
  · have HT := Lib.hid (show r = false by rw [← hr]; exact leastB_1 h1)
    have HI := Lib.hid h1
    clear h hr h1
    go_enter Try.func94, Try.ntmps94
    go_wp2_with (go_at_call 90; refine (c_impl_isRoom _ _ HI.out).mono ?_; rintro e w' ⟨rfl, rfl⟩)
    go_ret
    exact ⟨retB_ (by rw [HT.out]), 0, rfl⟩
  have HI := Lib.hid h1
  have rr := inB_is_.1 h1
  by_cases h2 : (n : Int) ≤ room
  · have hn : n ≤ 256 := by omega
    have HN := Lib.hid hn
    cases h3 : keysB zs
    · have HT := Lib.hid (show r = false by rw [← hr]; exact leastB_3 h3)
      have H3 := Lib.hid h3
      clear h hr h1 h3 rr
      go_enter Try.func94, Try.ntmps94
      go_wp2_with (first | (go_at_call 90; refine (c_impl_isRoom _ _ HI.out).mono ?_; rintro e w' ⟨rfl, rfl⟩) | (go_at_call 89; refine (c_impl_AreKeys_k _ _ _ zs _ H3.out HM.out H.out).mono ?_; rintro e w' ⟨rfl, rfl⟩))
      go_ret
      exact ⟨retB_ (by rw [HT.out]), 0, rfl⟩
    · have HT := Lib.hid (show riseB zs = r by
        rw [← hr]
        cases h4 : riseB zs
        · exact (leastB_4 h4).symm
        · exact (leastB_y h1 (by rw [hz]; exact h2) h3 h4).symm)
      have H3 := Lib.hid h3
      clear h hr h1 h3 rr
      go_enter Try.func94, Try.ntmps94
      go_wp2_with (first | (go_at_call 90; refine (c_impl_isRoom _ _ HI.out).mono ?_; rintro e w' ⟨rfl, rfl⟩) | (go_at_call 89; refine (c_impl_AreKeys_k _ _ _ zs _ H3.out HM.out H.out).mono ?_; rintro e w' ⟨rfl, rfl⟩) | (go_at_call 145; refine (c_impl_areIncreasing _ _ _ zs _ HT.out HN.out H.out).mono ?_; rintro e w' ⟨rfl, q, rfl⟩))
      go_ret
      exact ⟨rfl, _, rfl⟩
  · have HT := Lib.hid (show r = false by rw [← hr]; exact leastB_2 (by rw [hz]; exact h2))
    clear h hr h1 rr
    go_enter Try.func94, Try.ntmps94
    go_wp2_with (go_at_call 90; refine (c_impl_isRoom _ _ HI.out).mono ?_; rintro e w' ⟨rfl, rfl⟩)
    go_ret
    exact ⟨retB_ (by rw [HT.out]), 0, rfl⟩
set_option maxHeartbeats 1000000 in
theorem c_impl_CountOfLeast (a : Option Addr) (n cap : Nat) (zs : List Int) (room : Int) (w : World) {v : Option Nat} {rb : Bool} (hv : countR zs room = (v, rb)) (hm : n ≤ 1048576) (h : Reads w a n (ints zs)) :
    Calls Try.prog 44 #[.slice a n cap, .int .i64 room] w fun e w' => ∃ f, e = .returned (.tuple #[.float .f32 f, .bool rb]) ∧ fv .f32 f = v ∧ Ext w w' := by
  have hz := h.int.1
  have H := Lib.hid h
  have HM := Lib.hid (show n ≤ maxLen by unfold maxLen; omega)
  cases hl : leastB zs room
  · rw [countR_no hl] at hv
    cases hv
    have HL := Lib.hid hl
    clear h hl
    go_enter Try.func44, Try.ntmps44
    go_wp2_with (go_at_call 94; refine (c_impl_areLeast _ _ _ zs room _ HL.out hm H.out).mono ?_; rintro e w' ⟨rfl, q, rfl⟩)
    go_ret2
    exact ⟨_, rfl, fv00, Ext.drewN _ _⟩
  have HL := Lib.hid hl
  obtain ⟨l1, l2, l3, l4⟩ := leastB_is hl
  have rr := inB_is_.1 l1
  rw [hz] at l2
  have HI := Lib.hid l1
  have H3 := Lib.hid l3
  have H4 := Lib.hid l2
  have H5 := Lib.hid l4
  have HN := Lib.hid (show n ≤ 256 by omega)
  have hn1 : (n : Int) ≤ 256 := by omega
  have r1 := rr.1
  have r2 := rr.2
  by_cases hlt : (n : Int) < room
  · rw [countR_lt hl (by rw [hz]; exact hlt), hz] at hv
    cases hv
    obtain ⟨m0, e0, d0⟩ : ∃ s m e, FloatKind.f32.decode (floatOfInt .f32 (n : Int)) = .number s m e := by
      obtain ⟨s, m, e, d, _⟩ := int_bd32 (n := (n : Int)) (by omega) (by omega)
      exact ⟨s, m, e, d⟩
    obtain ⟨e1, d1⟩ := d0
    have HF := Lib.hid (dec_fin d1)
    clear h hl l1 l2 l3 l4 rr d1
    go_enter Try.func44, Try.ntmps44
    go_wp2_with fail
    refine (c_impl_areLeast _ _ _ zs room _ HL.out hm H.out).mono ?_; rintro e w' ⟨rfl, q, rfl⟩
    go_wp2
    go_ret2
    exact ⟨_, rfl, HF.out, Ext.drewN _ _⟩
  · rw [countR_eq hl (by rw [hz]; exact hlt), hz] at hv
    obtain ⟨m, hmm⟩ : ∃ m, n = m + 1 := ⟨n - 1, by omega⟩
    rw [show n - 1 = m by omega] at hv
    obtain ⟨x, hx⟩ : ∃ x, getI zs m = x := ⟨_, rfl⟩
    rw [hx] at hv
    have kx := keys_at l3 (i := m) (by rw [hz]; omega)
    rw [hx] at kx
    obtain ⟨s, q1, q2, q3⟩ := count_ex kx.1 kx.2 rr.1 rr.2
    obtain ⟨y, hy⟩ : ∃ y, countV x room = y := ⟨_, rfl⟩
    rw [hy] at q2 q3 hv
    cases hv
    have HFV := Lib.hid (fin_fv q3)
    have HF := Lib.hid q3
    obtain ⟨u, hu⟩ : ∃ u, x + 1 = u := ⟨_, rfl⟩
    obtain ⟨t, ht⟩ : ∃ t, room - 1 = t := ⟨_, rfl⟩
    rw [hu] at q1
    rw [ht] at q2
    have hq1 : ∀ wx : World, (binOp .quo 37 (.float .f32 (floatOfInt .f32 u)) (.float .f32 1333788672)).run Try.prog wx = .ok (.float .f32 s) wx := fun wx => by
      rw [run_fl_quo, flR_some q1, flD_some q1, World.drewN_zero]
    have hq2 : ∀ wx : World, (binOp .quo 37 (.float .f32 (floatOfInt .f32 t)) (.float .f32 s)).run Try.prog wx = .ok (.float .f32 y) wx := fun wx => by
      rw [run_fl_quo, flR_some q2, flD_some q2, World.drewN_zero]
    have eu : wrap64 (x + 1) = u := by rw [hu]; unfold wrap64; omega
    have et : wrap64 (room - 1) = t := by rw [ht]; unfold wrap64; omega
    have kx1 := kx.1
    have kx2 := kx.2
    have em : (n : Int) - 1 = (m : Int) := by omega
    have em2 : (m : Int) < (n : Int) := by omega
    have em3 : m < n := by omega
    rcases h.int.2 with h0 | ⟨gb, go, rfl, hc⟩
    · omega
    have hcell0 : w.cell? ⟨gb, go + m, none⟩ = some (.int .i64 x) := by rw [← hx]; exact hc m em3
    clear h hl l1 l2 l3 l4 rr q1 q2 q3 hx hy hc kx hmm
    go_enter Try.func44, Try.ntmps44
    go_wp2_with fail
    refine (c_impl_areLeast _ _ _ zs room _ HL.out hm H.out).mono ?_; rintro e w' ⟨rfl, q, rfl⟩
    go_wp2
    go_ret2
    exact ⟨_, rfl, HFV.out, by first | exact Ext.drewN _ _ | exact (Ext.drewN _ _).stepN _ | (rw [World.drewN_drewN]; exact Ext.drewN _ _)⟩
set_option maxHeartbeats 1000000 in
theorem c_spec_CountOfLeast (a : Option Addr) (n cap : Nat) (zs : List Int) (room : Int) (w : World) {v : Option Nat} {rb : Bool} (hv : countR zs room = (v, rb)) (hm : n ≤ 1048576) (h : Reads w a n (ints zs)) :
    Calls Try.prog 43 #[.slice a n cap, .int .i64 room] w fun e w' => ∃ f, e = .returned (.tuple #[.float .f32 f, .bool rb]) ∧ fv .f32 f = v ∧ Ext w w' := by
  have hz := h.int.1
  have H := Lib.hid h
  have HM := Lib.hid (show n ≤ maxLen by unfold maxLen; omega)
  cases hl : leastB zs room
  · rw [countR_no hl] at hv
    cases hv
    cases h1 : inB 1 room 256
    · have HI := Lib.hid h1
      clear h hl h1
      go_enter Try.func43, Try.ntmps43
      go_wp2_with (go_at_call 86; refine (c_spec_l04Room _ _ HI.out).mono ?_; rintro e w' ⟨rfl, rfl⟩)
      go_ret2
      exact ⟨_, rfl, fv00, Ext.refl _⟩
    have HI := Lib.hid h1
    by_cases h2 : keysB zs = false ∨ room < (n : Int)
    · have H2 := Lib.hid h2
      clear h hl h1 h2
      go_enter Try.func43, Try.ntmps43
      go_wp2_with fail
      refine (c_spec_l04Room _ _ HI.out).mono ?_; rintro e w' ⟨rfl, rfl⟩
      go_wp2_with fail
      refine (c_spec_l04Rising_1 _ _ _ zs room _ H2.out HM.out H.out).mono ?_; rintro e w' ⟨rfl, q, rfl⟩
      go_wp2
      go_ret2
      exact ⟨_, rfl, fv00, Ext.drewN _ _⟩
    · have h3 : keysB zs = true := by
        cases hk : keysB zs
        · exact absurd (.inl hk) h2
        · rfl
      have h4 : (n : Int) ≤ room := by
        by_cases e : (n : Int) ≤ room
        · exact e
        · exact absurd (.inr (by omega)) h2
      have h5 : riseB zs = false := by
        cases hk : riseB zs
        · rfl
        · rw [leastB_y h1 (by rw [hz]; exact h4) h3 hk] at hl; cases hl
      have H3 := Lib.hid h3
      have H4 := Lib.hid h4
      have H5 := Lib.hid h5
      have HN := Lib.hid (show n ≤ 256 by have := inB_is_.1 h1; omega)
      clear h hl h1 h2 h3 h4 h5
      go_enter Try.func43, Try.ntmps43
      go_wp2_with fail
      refine (c_spec_l04Room _ _ HI.out).mono ?_; rintro e w' ⟨rfl, rfl⟩
      go_wp2_with fail
      refine (c_spec_l04Rising _ _ _ zs room _ H5.out H3.out H4.out HN.out H.out).mono ?_; rintro e w' ⟨rfl, q, rfl⟩
      go_wp2
      go_ret2
      exact ⟨_, rfl, fv00, Ext.drewN _ _⟩
  have HL := Lib.hid hl
  obtain ⟨l1, l2, l3, l4⟩ := leastB_is hl
  have rr := inB_is_.1 l1
  rw [hz] at l2
  have HI := Lib.hid l1
  have H3 := Lib.hid l3
  have H4 := Lib.hid l2
  have H5 := Lib.hid l4
  have HN := Lib.hid (show n ≤ 256 by omega)
  have hn1 : (n : Int) ≤ 256 := by omega
  have r1 := rr.1
  have r2 := rr.2
  by_cases hlt : (n : Int) < room
  · rw [countR_lt hl (by rw [hz]; exact hlt), hz] at hv
    cases hv
    obtain ⟨m0, e0, d0⟩ : ∃ s m e, FloatKind.f32.decode (floatOfInt .f32 (n : Int)) = .number s m e := by
      obtain ⟨s, m, e, d, _⟩ := int_bd32 (n := (n : Int)) (by omega) (by omega)
      exact ⟨s, m, e, d⟩
    obtain ⟨e1, d1⟩ := d0
    have HF := Lib.hid (dec_fin d1)
    clear h hl l1 l2 l3 l4 rr d1
    go_enter Try.func43, Try.ntmps43
    go_wp2_with fail
    refine (c_spec_l04Room _ _ HI.out).mono ?_; rintro e w' ⟨rfl, rfl⟩
    go_wp2_with fail
    refine (c_spec_l04Rising _ _ _ zs room _ H5.out H3.out H4.out HN.out H.out).mono ?_; rintro e w' ⟨rfl, q, rfl⟩
    go_wp2
    go_ret2
    exact ⟨_, rfl, HF.out, Ext.drewN _ _⟩
  · rw [countR_eq hl (by rw [hz]; exact hlt), hz] at hv
    obtain ⟨m, hmm⟩ : ∃ m, n = m + 1 := ⟨n - 1, by omega⟩
    rw [show n - 1 = m by omega] at hv
    obtain ⟨x, hx⟩ : ∃ x, getI zs m = x := ⟨_, rfl⟩
    rw [hx] at hv
    have kx := keys_at l3 (i := m) (by rw [hz]; omega)
    rw [hx] at kx
    obtain ⟨s, q1, q2, q3⟩ := count_ex kx.1 kx.2 rr.1 rr.2
    obtain ⟨y, hy⟩ : ∃ y, countV x room = y := ⟨_, rfl⟩
    rw [hy] at q2 q3 hv
    cases hv
    have HFV := Lib.hid (fin_fv q3)
    have HF := Lib.hid q3
    obtain ⟨u, hu⟩ : ∃ u, x + 1 = u := ⟨_, rfl⟩
    obtain ⟨t, ht⟩ : ∃ t, room - 1 = t := ⟨_, rfl⟩
    rw [hu] at q1
    rw [ht] at q2
    have hq1 : ∀ wx : World, (binOp .quo 37 (.float .f32 (floatOfInt .f32 u)) (.float .f32 1333788672)).run Try.prog wx = .ok (.float .f32 s) wx := fun wx => by
      rw [run_fl_quo, flR_some q1, flD_some q1, World.drewN_zero]
    have hq2 : ∀ wx : World, (binOp .quo 37 (.float .f32 (floatOfInt .f32 t)) (.float .f32 s)).run Try.prog wx = .ok (.float .f32 y) wx := fun wx => by
      rw [run_fl_quo, flR_some q2, flD_some q2, World.drewN_zero]
    have eu : wrap64 (x + 1) = u := by rw [hu]; unfold wrap64; omega
    have et : wrap64 (room - 1) = t := by rw [ht]; unfold wrap64; omega
    have kx1 := kx.1
    have kx2 := kx.2
    have em : (n : Int) - 1 = (m : Int) := by omega
    have em2 : (m : Int) < (n : Int) := by omega
    have em3 : m < n := by omega
    rcases h.int.2 with h0 | ⟨gb, go, rfl, hc⟩
    · omega
    have hcell0 : w.cell? ⟨gb, go + m, none⟩ = some (.int .i64 x) := by rw [← hx]; exact hc m em3
    clear h hl l1 l2 l3 l4 rr q1 q2 q3 hx hy hc kx hmm
    go_enter Try.func43, Try.ntmps43
    go_wp2_with fail
    refine (c_spec_l04Room _ _ HI.out).mono ?_; rintro e w' ⟨rfl, rfl⟩
    go_wp2_with fail
    refine (c_spec_l04Rising _ _ _ zs room _ H5.out H3.out H4.out HN.out H.out).mono ?_; rintro e w' ⟨rfl, q, rfl⟩
    go_wp2_with fail
    refine (c_spec_l02Number _ _ HF.out).mono ?_; rintro e w' ⟨rfl, q2, rfl⟩
    go_wp2
    go_ret2
    exact ⟨_, rfl, HFV.out, by first | exact Ext.drewN _ _ | exact (Ext.drewN _ _).stepN _ | (rw [World.drewN_drewN]; exact Ext.drewN _ _)⟩
end Go.Proofs.Ytmgkbgdbahijnac
