/- CountOfLeast: both sides. -/
import Derived.Test.YtplngjbllllanaaDoorKey
import Derived.Test.YtplngjbllllanaaDoorAll
import Derived.Test.YtplngjbllllanaaDoorCon
import Derived.Test.YtplngjbllllanaaDoorCfp
import Derived.Deep.RegionWith
import Derived.Deep.RegionHeld3
import Derived.Deep.DeepCutAuto
import Derived.Deep.LoopGhost
namespace Go.Proofs.YtplngjbllllanaaDoor
open Go.ChangeShapes Go.WideShapes Go.ChangeAt Go.RowKit Go.Proofs.YtplngjbllllanaaDoor.Flo
set_option linter.unusedVariables false
theorem flR_some {w : World} {op : BinOp} {k : FloatKind} {x y r : Nat} (h : floatBits op k x y = some r) : flR w op k x y = r := by unfold flR; rw [h]; rfl
theorem flD_some {op : BinOp} {k : FloatKind} {x y r : Nat} (h : floatBits op k x y = some r) : flD op k x y = 0 := by unfold flD; rw [h]; rfl
theorem inB_is_ {lo k hi : Int} : inB lo k hi = true ↔ lo ≤ k ∧ k ≤ hi := by unfold inB; exact decide_eq_true_iff
theorem retB_ {a b : Bool} (h : a = b) : Ending.returned (.bool a) = Ending.returned (.bool b) := by rw [h]
theorem dec_fin {b : Nat} {s : Bool} {m : Nat} {e : Int} (h : FloatKind.f32.decode b = .number s m e) : fv .f32 b = some b := fv_some (by rw [h]; rfl)
theorem fin_fv {b : Nat} (h : isFin .f32 b = true) : fv .f32 b = some b := by
  obtain ⟨s, m, e, hd⟩ := isFin_number h
  exact dec_fin hd
/-- strictly rising -/
def riseAt (zs : List Int) (i : Nat) : Bool := decide (i = 0 ∨ getI zs (i - 1) < getI zs i)
def riseB (zs : List Int) : Bool := allTo zs.length (riseAt zs)
def leastB (zs : List Int) (room : Int) : Bool := inB 1 room 256 && (decide ((zs.length : Int) ≤ room) && (keysB zs && riseB zs))
theorem leastB_1 {zs : List Int} {room : Int} (h : inB 1 room 256 = false) : leastB zs room = false := by unfold leastB; rw [h]; rfl
theorem leastB_2 {zs : List Int} {room : Int} (h : ¬ (zs.length : Int) ≤ room) : leastB zs room = false := by unfold leastB; rw [decide_eq_false h]; simp
theorem leastB_3 {zs : List Int} {room : Int} (h : keysB zs = false) : leastB zs room = false := by unfold leastB; rw [h]; simp
theorem leastB_4 {zs : List Int} {room : Int} (h : riseB zs = false) : leastB zs room = false := by unfold leastB; rw [h]; simp
theorem leastB_y {zs : List Int} {room : Int} (h1 : inB 1 room 256 = true) (h2 : (zs.length : Int) ≤ room) (h3 : keysB zs = true) (h4 : riseB zs = true) : leastB zs room = true := by unfold leastB; rw [h1, decide_eq_true h2, h3, h4]; rfl
theorem leastB_is {zs : List Int} {room : Int} (h : leastB zs room = true) : inB 1 room 256 = true ∧ (zs.length : Int) ≤ room ∧ keysB zs = true ∧ riseB zs = true := by
  unfold leastB at h
  simp only [Bool.and_eq_true, decide_eq_true_eq] at h
  exact ⟨h.1, h.2.1, h.2.2.1, h.2.2.2⟩
theorem keys_at {zs : List Int} (h : keysB zs = true) {i : Nat} (hi : i < zs.length) : 0 ≤ getI zs i ∧ getI zs i ≤ 4294967295 := by
  unfold keysB at h
  simp only [Bool.and_eq_true, decide_eq_true_eq, List.all_eq_true] at h
  have := h.2 (zs[i]) (List.getElem_mem hi)
  have e : getI zs i = zs[i] := by unfold getI; rw [List.getElem?_eq_getElem hi]; rfl
  rw [e]
  unfold keyB at this
  simp only [decide_eq_true_eq] at this
  omega
def countV (x room : Int) : Nat := ((floatBits .quo .f32 (floatOfInt .f32 (x + 1)) 1333788672).bind fun s => floatBits .quo .f32 (floatOfInt .f32 (room - 1)) s).getD 0
def countR (zs : List Int) (room : Int) : Option Nat × Bool :=
  if leastB zs room then (if (zs.length : Int) < room then some (floatOfInt .f32 (zs.length : Int)) else some (countV (getI zs (zs.length - 1)) room), true) else (some 0, false)
theorem countR_no {zs : List Int} {room : Int} (h : leastB zs room = false) : countR zs room = (some 0, false) := by unfold countR; rw [h]; rfl
theorem countR_lt {zs : List Int} {room : Int} (h : leastB zs room = true) (h' : (zs.length : Int) < room) : countR zs room = (some (floatOfInt .f32 (zs.length : Int)), true) := by unfold countR; rw [h, if_pos h']; rfl
theorem countR_eq {zs : List Int} {room : Int} (h : leastB zs room = true) (h' : ¬ (zs.length : Int) < room) : countR zs room = (some (countV (getI zs (zs.length - 1)) room), true) := by unfold countR; rw [h, if_neg h']; rfl
theorem count_ex {x room : Int} (h0 : 0 ≤ x) (h1 : x ≤ 4294967295) (hr : 1 ≤ room) (hr2 : room ≤ 256) : ∃ s, floatBits .quo .f32 (floatOfInt .f32 (x + 1)) 1333788672 = some s ∧ floatBits .quo .f32 (floatOfInt .f32 (room - 1)) s = some (countV x room) ∧ isFin .f32 (countV x room) = true := by
  obtain ⟨m, e, d1, d2, d3, d4⟩ := int_both (n := x + 1) (by omega) (by omega)
  obtain ⟨s, m', e', s1, s2, s3, s4⟩ := share32 d1 d2 d3 d4
  obtain ⟨sg, k, i, k1, k2⟩ := int_bd32 (n := room - 1) (by omega) (by omega)
  obtain ⟨r, r1, r2⟩ := count_fin k1 k2 s2 s3 s4
  have e1 : countV x room = r := by unfold countV; rw [s1, Option.bind_some, r1]; rfl
  exact ⟨s, s1, by rw [e1]; exact r1, by rw [e1]; exact r2⟩
theorem riseAt_0 (zs : List Int) : riseAt zs 0 = true := decide_eq_true (.inl rfl)
theorem riseAt_y {zs : List Int} {m : Nat} (h : getI zs m < getI zs (m + 1)) : riseAt zs (m + 1) = true := decide_eq_true (.inr h)
theorem riseAt_n {zs : List Int} {m : Nat} (h : ¬ getI zs m < getI zs (m + 1)) : riseAt zs (m + 1) = false := decide_eq_false (fun e => by
  rcases e with e | e
  · omega
  · exact h e)
theorem fv00 : fv .f32 0 = some 0 := fv_some (by rw [dec_zero]; rfl)
theorem c_l00In_k (k lo hi : Int) (w : World) {b : Bool} (h : inB lo k hi = b) : Calls Tryd.prog 22 #[.int .i64 k, .int .i64 lo, .int .i64 hi] w fun e w' => e = .returned (.bool b) ∧ w = w' := by
  subst h; exact (c_l00In k lo hi w).mono (by rintro e w' ⟨rfl, rfl⟩; exact ⟨rfl, rfl⟩)
theorem c_impl_AreKeys_k (a : Option Addr) (n cap : Nat) (zs : List Int) (w : World) {r : Bool} (hr : keysB zs = r) (hm : n ≤ maxLen) (h : Reads w a n (ints zs)) : Calls Tryd.prog 17 #[.slice a n cap] w fun e w' => e = .returned (.bool r) ∧ w = w' := by
  subst hr; exact c_impl_AreKeys a n cap zs w hm h
theorem c_spec_l02Keys_k (a : Option Addr) (n cap : Nat) (zs : List Int) (w : World) {r : Bool} (hr : keysB zs = r) (hm : n ≤ maxLen) (h : Reads w a n (ints zs)) : Calls Tryd.prog 13 #[.slice a n cap] w fun e w' => e = .returned (.bool r) ∧ w = w' := by
  subst hr; exact c_spec_l02Keys a n cap zs w hm h
set_option maxHeartbeats 1000000 in
theorem c_impl_areIncreasing (a : Option Addr) (n cap : Nat) (zs : List Int) (w : World) {r : Bool} (hr : riseB zs = r) (hn : n ≤ 256) (h : Reads w a n (ints zs)) :
    Calls Tryd.prog 35 #[.slice a n cap] w fun e w' => e = .returned (.bool r) ∧ ∃ q, w' = w.drewN q := by
  obtain ⟨hz, h1⟩ := h.int
  have H1 := Lib.hid h1
  have HZ := Lib.hid hz
  have HR := Lib.hid hr
  have hn' : (n : Int) ≤ 256 := by omega
  clear h h1 hz hr
  go_enter Tryd.func35, Tryd.ntmps35
  go_wp2
  go_loopw [3] (fun i wr => ∃ m q : Nat, (m < n ∨ m = 0) ∧ i = .int .i64 ((m : Int) + 1) ∧ wr = w.drewN q ∧ ∀ j, j < m + 1 → j < n → riseAt zs j = true) (fun i _ => n + 1 - (intOf i).toNat)
  case atStart => exact ⟨0, 0, .inr rfl, rfl, rfl, fun j h1 h2 => by have e : j = 0 := (by omega); rw [e]; exact riseAt_0 zs⟩
  case round =>
    obtain ⟨m, q, hm0, rfl, hw, hall⟩ := hrel
    have HW := Lib.hid hw
    have HA := Lib.hid hall
    by_cases hlt : m + 1 < n
    · rcases H1.out with h0 | ⟨b1, o1, rfl, hc1⟩
      · omega
      have k1 : wr.cell? ⟨b1, o1 + (m + 1), none⟩ = some (.int .i64 (zs[m + 1]?.getD 0)) := by rw [hw]; exact hc1 (m + 1) hlt
      have k2 : wr.cell? ⟨b1, o1 + m, none⟩ = some (.int .i64 (zs[m]?.getD 0)) := by rw [hw]; exact hc1 m (by omega)
      obtain ⟨x, hxx⟩ : ∃ x, zs[m + 1]?.getD 0 = x := ⟨_, rfl⟩
      obtain ⟨y, hyy⟩ : ∃ y, zs[m]?.getD 0 = y := ⟨_, rfl⟩
      rw [hxx] at k1
      rw [hyy] at k2
      have hxx' : getI zs (m + 1) = x := hxx
      have hyy' : getI zs m = y := hyy
      have i1 : (m : Int) + 1 < (n : Int) := by omega
      have i2 : (m : Int) + 1 - 1 = (m : Int) := by omega
      have i3 : (m : Int) ≤ 256 := by omega
      have i4 : wrap64 (m : Int) = (m : Int) := by unfold wrap64; omega
      have i5 : (m : Int) < (n : Int) := by omega
      have i6 : (0 : Int) ≤ (m : Int) + 1 := by omega
      by_cases hxy : x ≤ y
      · have HB := Lib.hid (show r = false by rw [← HR.out]; exact allTo_no (i := m + 1) (by rw [HZ.out]; exact hlt) (riseAt_n (by rw [hxx', hyy']; omega)))
        clear hxx hyy hxx' hyy' hall hw hc1
        go_upto_region 4 with fail
        go_quiet (fail)
        go_wp2
        go_ret
        exact ⟨retB_ HB.out.symm, _, by rw [HW.out, World.drewN_drewN]⟩
      · have HN := Lib.hid (show ∀ j, j < m + 1 + 1 → j < n → riseAt zs j = true from fun j h1 h2 => by
          by_cases e : j = m + 1
          · subst e; exact riseAt_y (by rw [hxx', hyy']; omega)
          · exact HA.out j (by omega) h2)
        clear hxx hyy hxx' hyy' hall hw hc1
        go_upto_region 4 with fail
        go_quiet (fail)
        go_wp2
        go_roundw
        case rel => exact ⟨m + 1, _, .inl hlt, by go_num, by rw [HW.out, World.drewN_drewN], HN.out⟩
        case measure => simp [intOf]; omega
    · have HB := Lib.hid (show r = true by rw [← HR.out]; exact allTo_yes (fun i hi => HA.out i (by rw [HZ.out] at hi; omega) (by rw [HZ.out] at hi; exact hi)))
      have i1 : ¬ (m : Int) + 1 < (n : Int) := by omega
      clear hall hw
      go_wp2
      go_ret
      exact ⟨retB_ HB.out.symm, _, HW.out⟩
set_option maxHeartbeats 1000000 in
theorem c_spec_l04Rising (a : Option Addr) (n cap : Nat) (zs : List Int) (room : Int) (w : World) {r : Bool} (hr : riseB zs = r) (hk : keysB zs = true) (hl : (n : Int) ≤ room) (hn : n ≤ 256) (h : Reads w a n (ints zs)) :
    Calls Tryd.prog 21 #[.slice a n cap, .int .i64 room] w fun e w' => e = .returned (.bool r) ∧ ∃ q, w' = w.drewN q := by
  have HH := Lib.hid h
  obtain ⟨hz, h1⟩ := h.int
  have H1 := Lib.hid h1
  have HZ := Lib.hid hz
  have HR := Lib.hid hr
  have HK := Lib.hid hk
  have HM := Lib.hid (show n ≤ maxLen by unfold maxLen; omega)
  have hn' : (n : Int) ≤ 256 := by omega
  clear h h1 hz hr hk
  go_enter Tryd.func21, Tryd.ntmps21
  go_wp2_with fail
  refine (c_spec_l02Keys_k _ _ _ zs _ HK.out HM.out HH.out).mono ?_; rintro e w' ⟨rfl, rfl⟩
  go_wp2
  go_loopw [5] (fun i wr => ∃ m q : Nat, (m < n ∨ m = 0) ∧ i = .int .i64 ((m : Int) + 1) ∧ wr = w.drewN q ∧ ∀ j, j < m + 1 → j < n → riseAt zs j = true) (fun i _ => n + 1 - (intOf i).toNat)
  case atStart => exact ⟨0, 0, .inr rfl, rfl, rfl, fun j h1 h2 => by have e : j = 0 := (by omega); rw [e]; exact riseAt_0 zs⟩
  case round =>
    obtain ⟨m, q, hm0, rfl, hw, hall⟩ := hrel
    have HW := Lib.hid hw
    have HA := Lib.hid hall
    by_cases hlt : m + 1 < n
    · rcases H1.out with h0 | ⟨b1, o1, rfl, hc1⟩
      · omega
      have k1 : wr.cell? ⟨b1, o1 + (m + 1), none⟩ = some (.int .i64 (zs[m + 1]?.getD 0)) := by rw [hw]; exact hc1 (m + 1) hlt
      have k2 : wr.cell? ⟨b1, o1 + m, none⟩ = some (.int .i64 (zs[m]?.getD 0)) := by rw [hw]; exact hc1 m (by omega)
      obtain ⟨x, hxx⟩ : ∃ x, zs[m + 1]?.getD 0 = x := ⟨_, rfl⟩
      obtain ⟨y, hyy⟩ : ∃ y, zs[m]?.getD 0 = y := ⟨_, rfl⟩
      rw [hxx] at k1
      rw [hyy] at k2
      have hxx' : getI zs (m + 1) = x := hxx
      have hyy' : getI zs m = y := hyy
      have i1 : (m : Int) + 1 < (n : Int) := by omega
      have i2 : (m : Int) + 1 - 1 = (m : Int) := by omega
      have i3 : (m : Int) ≤ 256 := by omega
      have i4 : wrap64 (m : Int) = (m : Int) := by unfold wrap64; omega
      have i5 : (m : Int) < (n : Int) := by omega
      have i6 : (0 : Int) ≤ (m : Int) + 1 := by omega
      by_cases hxy : x ≤ y
      · have HB := Lib.hid (show r = false by rw [← HR.out]; exact allTo_no (i := m + 1) (by rw [HZ.out]; exact hlt) (riseAt_n (by rw [hxx', hyy']; omega)))
        clear hxx hyy hxx' hyy' hall hw hc1
        go_upto_region 6 with fail
        go_quiet (fail)
        go_wp2
        go_ret
        exact ⟨retB_ HB.out.symm, _, by rw [HW.out, World.drewN_drewN]⟩
      · have HN := Lib.hid (show ∀ j, j < m + 1 + 1 → j < n → riseAt zs j = true from fun j h1 h2 => by
          by_cases e : j = m + 1
          · subst e; exact riseAt_y (by rw [hxx', hyy']; omega)
          · exact HA.out j (by omega) h2)
        clear hxx hyy hxx' hyy' hall hw hc1
        go_upto_region 6 with fail
        go_quiet (fail)
        go_wp2
        go_roundw
        case rel => exact ⟨m + 1, _, .inl hlt, by go_num, by rw [HW.out, World.drewN_drewN], HN.out⟩
        case measure => simp [intOf]; omega
    · have HB := Lib.hid (show r = true by rw [← HR.out]; exact allTo_yes (fun i hi => HA.out i (by rw [HZ.out] at hi; omega) (by rw [HZ.out] at hi; exact hi)))
      have i1 : ¬ (m : Int) + 1 < (n : Int) := by omega
      clear hall hw
      go_wp2
      go_ret
      exact ⟨retB_ HB.out.symm, _, HW.out⟩
theorem c_spec_l04Rising_1 (a : Option Addr) (n cap : Nat) (zs : List Int) (room : Int) (w : World) (hk : keysB zs = false ∨ room < (n : Int)) (hm : n ≤ maxLen) (h : Reads w a n (ints zs)) :
    Calls Tryd.prog 21 #[.slice a n cap, .int .i64 room] w fun e w' => e = .returned (.bool false) ∧ ∃ q, w' = w.drewN q := by
  have HH := Lib.hid h
  have HM := Lib.hid hm
  have hm' := hm
  unfold maxLen at hm'
  cases hkk : keysB zs
  · have HK := Lib.hid hkk
    clear h hk hkk hm
    go_enter Tryd.func21, Tryd.ntmps21
    go_wp2_with fail
    refine (c_spec_l02Keys_k _ _ _ zs _ HK.out HM.out HH.out).mono ?_; rintro e w' ⟨rfl, rfl⟩
    go_wp2
    go_ret
    exact ⟨rfl, 0, rfl⟩
  · have HK := Lib.hid hkk
    have hl : room < (n : Int) := by
      rcases hk with hk | hk
      · rw [hk] at hkk; cases hkk
      · omega
    clear h hk hkk hm
    go_enter Tryd.func21, Tryd.ntmps21
    go_wp2_with fail
    refine (c_spec_l02Keys_k _ _ _ zs _ HK.out HM.out HH.out).mono ?_; rintro e w' ⟨rfl, rfl⟩
    go_wp2
    go_ret
    exact ⟨rfl, 0, rfl⟩
end Go.Proofs.YtplngjbllllanaaDoor
