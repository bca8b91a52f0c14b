/- Cells: valid, on both sides. -/
import Derived.Test.YtfbapbgiegploaaCel
import Derived.Test.YtfbapbgiegploaaRow
import Derived.Deep.QuietTactic
import Derived.BigQuiet
import Derived.Deep.RegionWith
namespace Go.Proofs.Ytfbapbgiegploaa
open Go.ChangeShapes Go.WideShapes Go.ChangeAt Go.RowKit
set_option linter.unusedVariables false
theorem retB {a b : Bool} (h : a = b) : Ending.returned (.bool a) = Ending.returned (.bool b) := by rw [h]
theorem c_l00In_b (k lo hi : Int) (w : World) {b : Bool} (h : inB lo k hi = b) : Calls Try.prog 242 #[.int .i64 k, .int .i64 lo, .int .i64 hi] w fun e w' => e = .returned (.bool b) ∧ w' = w := by
  subst h; exact (c_l00In k lo hi w).mono (by rintro e w' ⟨rfl, rfl⟩; exact ⟨rfl, rfl⟩)
theorem c_spec_l02Key_b (k : Int) (w : World) {b : Bool} (h : keyB k = b) : Calls Try.prog 174 #[.int .i64 k] w fun e w' => e = .returned (.bool b) ∧ w' = w := by
  subst h; exact (c_spec_l02Key k w).mono (by rintro e w' ⟨rfl, rfl⟩; exact ⟨rfl, rfl⟩)
set_option maxHeartbeats 2000000 in
theorem c_spec_l03Is_no (b : Nat) (W D S : Int) (a : Option Addr) (n cap : Nat) (zs : List Int) (w : World) (hs : sidesB W D S = false)
    (hb : Box w b 57 #[.int .i64 W, .int .i64 D, .int .i64 S, .slice a n cap]) :
    Calls Try.prog 173 #[.pointer (some ⟨b, 0, none⟩)] w fun e w' => e = .returned (.bool false) ∧ ∃ q, w' = w.drewN q := by
  have h0 := hb.cell 0
  have h1 := hb.cell 1
  have h2 := hb.cell 2
  have h3 := hb.cell 3
  simp only [List.getElem?_toArray, List.getElem?_cons_zero, List.getElem?_cons_succ] at h0 h1 h2 h3
  clear hb
  cases e1 : inB 2 W 64
  · have H1 := Lib.hid e1
    clear e1 hs
    go_enter Try.func173, Try.ntmps173
    go_wp2
    go_quiet ((go_at_call_of 242 (Value.int .i64 W); exact Calls.quiet_of_same (c_l00In_b W 2 64 _ H1.out)))
    go_wp2
    go_ret
    exact ⟨rfl, _, rfl⟩
  · cases e2 : inB 1 D 6
    · have H1 := Lib.hid e1
      have H2 := Lib.hid e2
      clear e1 e2 hs
      go_enter Try.func173, Try.ntmps173
      go_wp2
      go_quiet (first | (go_at_call_of 242 (Value.int .i64 2); exact Calls.quiet_of_same (c_l00In_b W 2 64 _ H1.out)) | (go_at_call_of 242 (Value.int .i64 1); exact Calls.quiet_of_same (c_l00In_b D 1 6 _ H2.out)))
      go_wp2
      go_ret
      exact ⟨rfl, _, rfl⟩
    · have e3 : keyB S = false := by unfold sidesB at hs; rw [e1, e2] at hs; simpa using hs
      have H1 := Lib.hid e1
      have H2 := Lib.hid e2
      have H3 := Lib.hid e3
      clear e1 e2 e3 hs
      go_enter Try.func173, Try.ntmps173
      go_wp2
      go_quiet (first | (go_at_call_of 242 (Value.int .i64 2); exact Calls.quiet_of_same (c_l00In_b W 2 64 _ H1.out)) | (go_at_call_of 242 (Value.int .i64 1); exact Calls.quiet_of_same (c_l00In_b D 1 6 _ H2.out)) | (go_at_call 174; exact Calls.quiet_of_same (c_spec_l02Key_b S _ H3.out)))
      go_wp2
      go_ret
      exact ⟨rfl, _, rfl⟩
theorem mul_wrap {m d : Nat} (h1 : m ≤ 64) (h2 : d ≤ 6) : IntKind.i64.wrap ((m : Int) * (d : Int)) = ((m * d : Nat) : Int) := by
  have : m * d ≤ 64 * 6 := Nat.mul_le_mul h1 h2
  rw [← Int.natCast_mul, IntKind.wrap_i64]
  omega
theorem many_mk {m : Int} {zs : List Int} (h : ∀ i, i < zs.length → inB (-m) (zs[i]?.getD 0) m = true) : manyB m zs = true := manyB_mk fun i hi => inB_is.1 (h i hi)
theorem many_in {m : Int} {zs : List Int} (h : manyB m zs = true) {i : Nat} (hi : i < zs.length) : inB (-m) (zs[i]?.getD 0) m = true := inB_is.2 (manyB_at h hi)
theorem many_no {m : Int} {zs : List Int} {i : Nat} (hi : i < zs.length) {x : Int} (hx : zs[i]?.getD 0 = x) (h : inB (-m) x m = false) : manyB m zs = false := by
  refine manyB_bad hi fun hc => ?_
  rw [hx] at hc
  rw [inB_is.2 hc] at h
  cases h
set_option maxHeartbeats 4000000 in
theorem c_spec_l03Is_len (b : Nat) (m d : Nat) (S : Int) (a : Option Addr) (n cap : Nat) (w : World) (m2 : 2 ≤ m) (m64 : m ≤ 64) (d1 : 1 ≤ d) (d6 : d ≤ 6) (hk : keyB S = true) (hn : n ≤ maxLen) (hl : n ≠ m * d)
    (hb : Box w b 57 #[.int .i64 m, .int .i64 d, .int .i64 S, .slice a n cap]) :
    Calls Try.prog 173 #[.pointer (some ⟨b, 0, none⟩)] w fun e w' => e = .returned (.bool false) ∧ ∃ q, w' = w.drewN q := by
  have h0 := hb.cell 0
  have h1 := hb.cell 1
  have h2 := hb.cell 2
  have h3 := hb.cell 3
  simp only [List.getElem?_toArray, List.getElem?_cons_zero, List.getElem?_cons_succ] at h0 h1 h2 h3
  unfold maxLen at hn
  have H1 := Lib.hid (show inB 2 (m : Int) 64 = true from inB_is.2 (by omega))
  have H2 := Lib.hid (show inB 1 (d : Int) 6 = true from inB_is.2 (by omega))
  have H3 := Lib.hid hk
  have hmw := mul_wrap m64 d6
  obtain ⟨L, hL⟩ : ∃ L, m * d = L := ⟨_, rfl⟩
  rw [hL] at hmw hl
  have g1 : ((n : Int) == (L : Int)) = false := by simp; omega
  have g2 : ((n : Int) != (L : Int)) = true := by simp; omega
  clear hb hL m2 m64 d1 d6 hk hl
  go_enter Try.func173, Try.ntmps173
  go_wp2
  go_quiet (first | (go_at_call_of 242 (Value.int .i64 2); exact Calls.quiet_of_same (c_l00In_b m 2 64 _ H1.out)) | (go_at_call_of 242 (Value.int .i64 1); exact Calls.quiet_of_same (c_l00In_b d 1 6 _ H2.out)) | (go_at_call 174; exact Calls.quiet_of_same (c_spec_l02Key_b S _ H3.out)))
  go_wp2
  go_ret
  exact ⟨rfl, _, rfl⟩
set_option maxHeartbeats 4000000 in
theorem c_spec_l03Is_many (b : Nat) (m d : Nat) (S : Int) (a : Option Addr) (n cap : Nat) (zs : List Int) (w : World) (m2 : 2 ≤ m) (m64 : m ≤ 64) (d1 : 1 ≤ d) (d6 : d ≤ 6) (hk : keyB S = true) (hl : n = m * d) {r : Bool} (hr : manyB 1000000000000 zs = r)
    (hb : Box w b 57 #[.int .i64 m, .int .i64 d, .int .i64 S, .slice a n cap]) (h : Reads w a n (ints zs)) :
    Calls Try.prog 173 #[.pointer (some ⟨b, 0, none⟩)] w fun e w' => e = .returned (.bool r) ∧ ∃ q, w' = w.drewN q := by
  have h0 := hb.cell 0
  have h1 := hb.cell 1
  have h2 := hb.cell 2
  have h3 := hb.cell 3
  simp only [List.getElem?_toArray, List.getElem?_cons_zero, List.getElem?_cons_succ] at h0 h1 h2 h3
  have hn : n ≤ 384 := by
    have : m * d ≤ 64 * 6 := Nat.mul_le_mul m64 d6
    omega
  obtain ⟨hz, hrd⟩ := h.int
  have HZ := Lib.hid hz
  have HR := Lib.hid hrd
  have HB := Lib.hid hr
  have H1 := Lib.hid (show inB 2 (m : Int) 64 = true from inB_is.2 (by omega))
  have H2 := Lib.hid (show inB 1 (d : Int) 6 = true from inB_is.2 (by omega))
  have H3 := Lib.hid hk
  have hmw := mul_wrap m64 d6
  rw [← hl] at hmw
  have g1 : ((n : Int) == (n : Int)) = true := by simp
  have g2 : ((n : Int) != (n : Int)) = false := by simp
  clear hb m2 m64 d1 d6 hk hl hz hrd hr h
  go_enter Try.func173, Try.ntmps173
  go_wp2
  go_quiet (first | (go_at_call_of 242 (Value.int .i64 2); exact Calls.quiet_of_same (c_l00In_b m 2 64 _ H1.out)) | (go_at_call_of 242 (Value.int .i64 1); exact Calls.quiet_of_same (c_l00In_b d 1 6 _ H2.out)) | (go_at_call 174; exact Calls.quiet_of_same (c_spec_l02Key_b S _ H3.out)))
  go_wp2
  go_loop [48] (fun i => ∃ k : Nat, k ≤ n ∧ i = .int .i64 k ∧ ∀ j, j < k → inB (-1000000000000) (zs[j]?.getD 0) 1000000000000 = true) (fun i => n - (intOf i).toNat)
  case atStart => exact ⟨0, Nat.zero_le _, rfl, fun j hj => absurd hj (Nat.not_lt_zero _)⟩
  case round =>
    obtain ⟨k, hk, rfl, hall⟩ := hrel
    have HA := Lib.hid hall
    clear hall
    by_cases hlt : k < n
    · rcases HR.out with he | ⟨g, off, rfl, hc⟩
      · omega
      have hcell := hc k hlt
      obtain ⟨x, hx⟩ : ∃ x, zs[k]?.getD 0 = x := ⟨_, rfl⟩
      have HX := Lib.hid hx
      rw [hx] at hcell
      clear hc hx
      cases hin : inB (-1000000000000) x 1000000000000
      · have HI := Lib.hid hin
        clear hin
        go_wp2_with (go_at_call 242; refine (c_l00In_b x (-1000000000000) 1000000000000 _ HI.out).mono ?_; rintro e w' ⟨rfl, rfl⟩)
        go_ret
        exact ⟨retB (by rw [← HB.out]; exact (many_no (by rw [HZ.out]; exact hlt) HX.out HI.out).symm), _, rfl⟩
      · have HI := Lib.hid hin
        clear hin
        go_wp2_with (go_at_call 242; refine (c_l00In_b x (-1000000000000) 1000000000000 _ HI.out).mono ?_; rintro e w' ⟨rfl, rfl⟩)
        go_round
        case rel => exact ⟨k + 1, by omega, by go_num, fun j hj => by
          by_cases e : j = k
          · subst e; rw [HX.out]; exact HI.out
          · exact HA.out j (by omega)⟩
        case measure => simp [intOf]; omega
    · obtain rfl : k = n := by omega
      go_wp2
      go_ret
      exact ⟨retB (by rw [← HB.out]; exact (many_mk (by rw [HZ.out]; exact HA.out)).symm), _, rfl⟩
theorem c_spec_l03Is (b : Nat) (W D S : Int) (a : Option Addr) (n cap : Nat) (zs : List Int) (w : World) {r : Bool} (hr : cellsB W D S zs = r)
    (hb : Box w b 57 #[.int .i64 W, .int .i64 D, .int .i64 S, .slice a n cap]) (hm : n ≤ maxLen) (h : Reads w a n (ints zs)) :
    Calls Try.prog 173 #[.pointer (some ⟨b, 0, none⟩)] w fun e w' => e = .returned (.bool r) ∧ ∃ q, w' = w.drewN q := by
  cases hs : sidesB W D S
  · rw [cellsB_sides hs] at hr
    subst hr
    exact c_spec_l03Is_no b W D S a n cap zs w hs hb
  · obtain ⟨m, d, rfl, rfl, h1, h2, h3, h4, h5⟩ := sides_of hs
    have hz : zs.length = n := h.int.1
    by_cases hl : n = m * d
    · refine c_spec_l03Is_many b m d S a n cap zs w h1 h2 h3 h4 h5 hl ?_ hb h
      rw [← hr]
      unfold cellsB
      rw [hs, decide_eq_true (show (zs.length : Int) = (m : Int) * (d : Int) by rw [← Int.natCast_mul]; omega)]
      rfl
    · rw [cellsB_len (by rw [← Int.natCast_mul]; omega)] at hr
      subst hr
      exact c_spec_l03Is_len b m d S a n cap w h1 h2 h3 h4 h5 hm hl hb
theorem c_impl_IsKey_b (k : Int) (w : World) {b : Bool} (h : keyB k = b) : Calls Try.prog 126 #[.int .i64 k] w fun e w' => e = .returned (.bool b) ∧ w' = w := by
  subst h; exact (c_impl_IsKey k w).mono (by rintro e w' ⟨rfl, rfl⟩; exact ⟨rfl, rfl⟩)
theorem c_impl_shapeOf (W D S : Int) (a : Option Addr) (n cap : Nat) (w : World) :
    Calls Try.prog 138 #[.agg #[.int .i64 W, .int .i64 D, .int .i64 S, .slice a n cap]] w fun e w' => e = .returned (.agg #[.int .i64 W, .int .i64 D, .int .i64 S]) ∧ Ext w w' := by
  go_enter Try.func138, Try.ntmps138
  go_wp2
  exact bodyPost_ret (v := .agg #[.int .i64 W, .int .i64 D, .int .i64 S]) (by simp [results, Try.results138, go_sem]) rfl ⟨rfl, ((Ext.refl _).stepA _).stepA _⟩
theorem sidesB_1 {W D S : Int} (h : W < 2) : sidesB W D S = false := by unfold sidesB inB; rw [decide_eq_false (by omega)]; rfl
theorem sidesB_2 {W D S : Int} (h : 64 < W) : sidesB W D S = false := by unfold sidesB inB; rw [decide_eq_false (by omega)]; rfl
theorem sidesB_3 {W D S : Int} (h : D < 1) : sidesB W D S = false := by unfold sidesB inB; rw [decide_eq_false (show ¬ (1 ≤ D ∧ D ≤ 6) by omega)]; simp
theorem sidesB_4 {W D S : Int} (h : 6 < D) : sidesB W D S = false := by unfold sidesB inB; rw [decide_eq_false (show ¬ (1 ≤ D ∧ D ≤ 6) by omega)]; simp
theorem sidesB_5 {W D S : Int} (h1 : 2 ≤ W) (h2 : W ≤ 64) (h3 : 1 ≤ D) (h4 : D ≤ 6) : sidesB W D S = keyB S := by unfold sidesB inB; rw [decide_eq_true ⟨h1, h2⟩, decide_eq_true ⟨h3, h4⟩]; rfl
set_option maxHeartbeats 1000000 in
theorem c_impl_isShape (W D S : Int) (w : World) {r : Bool} (h : sidesB W D S = r) :
    Calls Try.prog 131 #[.agg #[.int .i64 W, .int .i64 D, .int .i64 S]] w fun e w' => e = .returned (.bool r) ∧ Ext w w' := by
  by_cases h1 : W < 2
  · rw [sidesB_1 h1] at h
    have H := Lib.hid h; clear h
    go_enter Try.func131, Try.ntmps131
    go_wp2
    go_ret
    exact ⟨retB (by first | (rw [← H.out]; done) | (rw [← H.out]; rfl) | (rw [← H.out]; simp; omega)), (Ext.refl _).stepA _⟩
  by_cases h2 : 64 < W
  · rw [sidesB_2 h2] at h
    have H := Lib.hid h; clear h
    go_enter Try.func131, Try.ntmps131
    go_wp2
    go_ret
    exact ⟨retB (by first | (rw [← H.out]; done) | (rw [← H.out]; rfl) | (rw [← H.out]; simp; omega)), (Ext.refl _).stepA _⟩
  by_cases h3 : D < 1
  · rw [sidesB_3 h3] at h
    have H := Lib.hid h; clear h
    go_enter Try.func131, Try.ntmps131
    go_wp2
    go_ret
    exact ⟨retB (by first | (rw [← H.out]; done) | (rw [← H.out]; rfl) | (rw [← H.out]; simp; omega)), (Ext.refl _).stepA _⟩
  by_cases h4 : 6 < D
  · rw [sidesB_4 h4] at h
    have H := Lib.hid h; clear h
    go_enter Try.func131, Try.ntmps131
    go_wp2
    go_ret
    exact ⟨retB (by first | (rw [← H.out]; done) | (rw [← H.out]; rfl) | (rw [← H.out]; simp; omega)), (Ext.refl _).stepA _⟩
  rw [sidesB_5 (by omega) (by omega) (by omega) (by omega)] at h
  have H := Lib.hid h; clear h
  go_enter Try.func131, Try.ntmps131
  go_wp2_with (go_at_call 126; refine (c_impl_IsKey_b S _ H.out).mono ?_; rintro e w' ⟨rfl, rfl⟩)
  go_ret
  exact ⟨rfl, (Ext.refl _).stepA _⟩
theorem c_impl_isWithin (n m : Int) (w : World) {b : Bool} (h0 : 0 ≤ m) (h1 : m ≤ 1000000000000) (h : inB (-m) n m = b) : Calls Try.prog 132 #[.int .i64 n, .int .i64 m] w fun e w' => e = .returned (.bool b) ∧ w' = w := by
  by_cases g1 : n < -m
  · have H := Lib.hid (show b = false by rw [← h]; exact decide_eq_false (by omega))
    clear h
    go_enter Try.func132, Try.ntmps132
    go_wp2
    go_ret
    exact ⟨retB (by first | (rw [H.out]; done) | (rw [H.out]; rfl) | (rw [H.out]; simp; omega)), rfl⟩
  by_cases g2 : m < n
  · have H := Lib.hid (show b = false by rw [← h]; exact decide_eq_false (by omega))
    clear h
    go_enter Try.func132, Try.ntmps132
    go_wp2
    go_ret
    exact ⟨retB (by first | (rw [H.out]; done) | (rw [H.out]; rfl) | (rw [H.out]; simp; omega)), rfl⟩
  have H := Lib.hid (show b = true by rw [← h]; exact decide_eq_true (by omega))
  clear h
  go_enter Try.func132, Try.ntmps132
  go_wp2
  go_ret
  exact ⟨retB (by first | (rw [H.out]; done) | (rw [H.out]; rfl) | (rw [H.out]; simp; omega)), rfl⟩
set_option maxHeartbeats 1000000 in
theorem c_impl_areWithin (a : Option Addr) (n cap : Nat) (zs : List Int) (m : Int) (w : World) {r : Bool} (m0 : 0 ≤ m) (m1 : m ≤ 1000000000000) (hm : n ≤ maxLen) (hr : manyB m zs = r) (h : Reads w a n (ints zs)) :
    Calls Try.prog 209 #[.slice a n cap, .int .i64 m] w fun e w' => e = .returned (.bool r) ∧ w' = w := by
  unfold maxLen at hm
  obtain ⟨hz, hrd⟩ := h.int
  have HZ := Lib.hid hz
  have HR := Lib.hid hrd
  have HB := Lib.hid hr
  clear hz hrd hr h
  go_enter Try.func209, Try.ntmps209
  go_wp2
  go_loop [9] (fun i => ∃ k : Nat, k ≤ n ∧ i = .int .i64 k ∧ ∀ j, j < k → inB (-m) (zs[j]?.getD 0) m = true) (fun i => n - (intOf i).toNat)
  case atStart => exact ⟨0, Nat.zero_le _, rfl, fun j hj => absurd hj (Nat.not_lt_zero _)⟩
  case round =>
    obtain ⟨k, hk, rfl, hall⟩ := hrel
    have HA := Lib.hid hall
    clear hall
    by_cases hlt : k < n
    · rcases HR.out with he | ⟨g, off, rfl, hc⟩
      · omega
      have hcell := hc k hlt
      obtain ⟨x, hx⟩ : ∃ x, zs[k]?.getD 0 = x := ⟨_, rfl⟩
      have HX := Lib.hid hx
      rw [hx] at hcell
      clear hc hx
      cases hin : inB (-m) x m
      · have HI := Lib.hid hin
        clear hin
        go_wp2_with (go_at_call 132; refine (c_impl_isWithin x m _ m0 m1 HI.out).mono ?_; rintro e w' ⟨rfl, rfl⟩)
        go_ret
        exact ⟨retB (by rw [← HB.out]; exact (many_no (by rw [HZ.out]; exact hlt) HX.out HI.out).symm), rfl⟩
      · have HI := Lib.hid hin
        clear hin
        go_wp2_with (go_at_call 132; refine (c_impl_isWithin x m _ m0 m1 HI.out).mono ?_; rintro e w' ⟨rfl, rfl⟩)
        go_round
        case rel => exact ⟨k + 1, by omega, by go_num, fun j hj => by
          by_cases e : j = k
          · subst e; rw [HX.out]; exact HI.out
          · exact HA.out j (by omega)⟩
        case measure => simp [intOf]; omega
    · obtain rfl : k = n := by omega
      go_wp2
      go_ret
      exact ⟨retB (by rw [← HB.out]; exact (many_mk (by rw [HZ.out]; exact HA.out)).symm), rfl⟩
set_option maxHeartbeats 1000000 in
theorem c_impl_ValidCells (W D S : Int) (a : Option Addr) (n cap : Nat) (zs : List Int) (w : World) {r : Bool} (hr : cellsB W D S zs = r) (hm : n ≤ maxLen) (h : Reads w a n (ints zs)) :
    Calls Try.prog 228 #[.agg #[.int .i64 W, .int .i64 D, .int .i64 S, .slice a n cap]] w fun e w' => e = .returned (.bool r) ∧ Ext w w' := by
  have H := Lib.hid h
  have hz : zs.length = n := h.int.1
  have HB := Lib.hid (Box.alloc w #[.int .i64 W, .int .i64 D, .int .i64 S, .slice a n cap] 57)
  clear h
  cases hs : sidesB W D S
  · have HS := Lib.hid hs
    have HR := Lib.hid (show r = false by rw [← hr]; exact cellsB_sides hs)
    clear hs hr
    go_enter Try.func228, Try.ntmps228
    go_wp2_with fail
    refine (c_impl_shapeOf W D S a n cap _).mono ?_; rintro e u1 ⟨rfl, x1⟩
    go_wp2_with fail
    refine (c_impl_isShape W D S _ HS.out).mono ?_; rintro e u2 ⟨rfl, x2⟩
    go_wp2
    go_ret
    exact ⟨retB HR.out.symm, ((Ext.alloc _ _).trans x1).trans x2⟩
  · obtain ⟨m, d, rfl, rfl, h1, h2, h3, h4, h5⟩ := sides_of hs
    have hp := mul_wrap h2 h4
    have hp' : (m : Int) * (d : Int) = ((m * d : Nat) : Int) := by rw [Int.natCast_mul]
    have hp2 : m * d ≤ 384 := Nat.mul_le_mul h2 h4
    have HS := Lib.hid hs
    unfold maxLen at hm
    by_cases hl : n = m * d
    · have HR := Lib.hid (show manyB 1000000000000 zs = r by
        rw [← hr]; unfold cellsB
        rw [hs, decide_eq_true (show (zs.length : Int) = (m : Int) * (d : Int) by rw [← Int.natCast_mul]; omega)]; rfl)
      obtain ⟨L, hL⟩ : ∃ L, m * d = L := ⟨_, rfl⟩
      rw [hL] at hp hp' hp2 hl
      subst hl
      have g1 : ((n : Int) == (n : Int)) = true := by simp
      clear hs hr hL hz
      go_enter Try.func228, Try.ntmps228
      go_wp2_with fail
      refine (c_impl_shapeOf m d S a n cap _).mono ?_; rintro e u1 ⟨rfl, x1⟩
      go_wp2_with fail
      refine (c_impl_isShape m d S _ HS.out).mono ?_; rintro e u2 ⟨rfl, x2⟩
      obtain ⟨b0, b1, b2, b3⟩ := ((HB.out.on x1).on x2).four
      have X := Lib.hid (((Ext.alloc w _).trans x1).trans x2)
      clear x1 x2
      go_wp2_with (go_at_call 209; refine (c_impl_areWithin a n cap zs 1000000000000 _ (by decide) (by decide) (by unfold maxLen; omega) HR.out (H.out.on X.out)).mono ?_; rintro e w' ⟨rfl, rfl⟩)
      go_ret
      exact ⟨rfl, X.out⟩
    · have HR := Lib.hid (show r = false by rw [← hr]; exact cellsB_len (by rw [← Int.natCast_mul]; omega))
      obtain ⟨L, hL⟩ : ∃ L, m * d = L := ⟨_, rfl⟩
      rw [hL] at hp hp' hp2 hl
      have g1 : ((n : Int) == (L : Int)) = false := by simp; omega
      clear hs hr hL hz
      go_enter Try.func228, Try.ntmps228
      go_wp2_with fail
      refine (c_impl_shapeOf m d S a n cap _).mono ?_; rintro e u1 ⟨rfl, x1⟩
      go_wp2_with fail
      refine (c_impl_isShape m d S _ HS.out).mono ?_; rintro e u2 ⟨rfl, x2⟩
      obtain ⟨b0, b1, b2, b3⟩ := ((HB.out.on x1).on x2).four
      have X := Lib.hid (((Ext.alloc w _).trans x1).trans x2)
      clear x1 x2
      go_wp2
      go_ret
      exact ⟨retB HR.out.symm, X.out⟩
end Go.Proofs.Ytfbapbgiegploaa
