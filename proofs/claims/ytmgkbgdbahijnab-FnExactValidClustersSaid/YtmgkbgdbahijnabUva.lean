/- Clusters: valid ones, on both sides. -/
import Derived.Test.YtmgkbgdbahijnabUkd
import Derived.Test.YtmgkbgdbahijnabAsc
import Derived.Deep.QuietTactic
import Derived.BigQuiet
import Derived.Deep.RegionWith
namespace Go.Proofs.Ytmgkbgdbahijnab
open Go.ChangeShapes Go.WideShapes Go.ChangeAt Go.RowKit Go.Proofs.Ytmgkbgdbahijnab.Flo
set_option linter.unusedVariables false
/-- whether clusters can have so many means and counts -/
def dimsU (R : Int) (m c : Nat) : Bool := inB 2 R 64 && (decide (m ≤ 256) && decide (c = m))
def cntAll (cs : List Int) : Bool := allTo cs.length fun i => inB 1 (getI cs i) 1000000
def clustB (R : Int) (ms : List Nat) (cs : List Int) : Bool := dimsU R ms.length cs.length && (cntAll cs && (finB ms && ascB ms && decide (sumTo (getI cs) cs.length ≤ 1000000)))
theorem clustB_dims {R : Int} {ms : List Nat} {cs : List Int} (h : dimsU R ms.length cs.length = false) : clustB R ms cs = false := by unfold clustB; rw [h]; rfl
theorem dimsU_1 {R : Int} {m c : Nat} (h : R < 2) : dimsU R m c = false := by unfold dimsU inB; rw [decide_eq_false (by omega)]; rfl
theorem dimsU_2 {R : Int} {m c : Nat} (h : 64 < R) : dimsU R m c = false := by unfold dimsU inB; rw [decide_eq_false (by omega)]; rfl
theorem dimsU_3 {R : Int} {m c : Nat} (h : 256 < m) : dimsU R m c = false := by unfold dimsU; rw [decide_eq_false (show ¬ m ≤ 256 by omega)]; simp
theorem dimsU_4 {R : Int} {m c : Nat} (h : c ≠ m) : dimsU R m c = false := by unfold dimsU; rw [decide_eq_false h]; simp
structure DimsU (R : Int) (m c : Nat) : Prop where
  lo : 2 ≤ R
  hi : R ≤ 64
  mx : m ≤ 256
  ce : c = m
theorem dimsU_ok {R : Int} {m c : Nat} (h : dimsU R m c = true) : DimsU R m c := by
  unfold dimsU at h
  simp only [Bool.and_eq_true, decide_eq_true_eq, inB_is] at h
  exact ⟨h.1.1, h.1.2, h.2.1, h.2.2⟩
theorem dimsU_mk {R : Int} {m c : Nat} (h1 : 2 ≤ R) (h2 : R ≤ 64) (h3 : m ≤ 256) (h4 : c = m) : dimsU R m c = true := by
  unfold dimsU; rw [inB_is.2 ⟨h1, h2⟩, decide_eq_true h3, decide_eq_true h4]; rfl
/-- valid clusters -/
structure ClustOk (R : Int) (ms : List Nat) (cs : List Int) : Prop where
  d : DimsU R ms.length cs.length
  cnt : ∀ i, i < ms.length → 1 ≤ getI cs i ∧ getI cs i ≤ 1000000
  fin : finB ms = true
  asc : ascB ms = true
  sum : sumTo (getI cs) ms.length ≤ 1000000
theorem clust_ok {R : Int} {ms : List Nat} {cs : List Int} (h : clustB R ms cs = true) : ClustOk R ms cs := by
  unfold clustB cntAll at h
  simp only [Bool.and_eq_true, decide_eq_true_eq] at h
  have d := dimsU_ok h.1
  exact ⟨d, fun i hi => inB_is.1 (allTo_at h.2.1 (by rw [d.ce]; exact hi)), h.2.2.1.1, h.2.2.1.2, by rw [← d.ce]; exact h.2.2.2⟩
theorem clustB_cnt {R : Int} {ms : List Nat} {cs : List Int} (h : cntAll cs = false) : clustB R ms cs = false := by unfold clustB; rw [h]; simp
theorem clustB_asc {R : Int} {ms : List Nat} {cs : List Int} (h : (finB ms && ascB ms) = false) : clustB R ms cs = false := by unfold clustB; rw [h]; simp
theorem clustB_sum {R : Int} {ms : List Nat} {cs : List Int} (hd : dimsU R ms.length cs.length = true) (h : cntAll cs = true) (h' : (finB ms && ascB ms) = true) : clustB R ms cs = decide (sumTo (getI cs) cs.length ≤ 1000000) := by unfold clustB; rw [hd, h, h']; simp
theorem c_l00In_w (k lo hi : Int) (w : World) {b : Bool} (h : inB lo k hi = b) : Calls Try.prog 91 #[.int .i64 k, .int .i64 lo, .int .i64 hi] w fun e w' => e = .returned (.bool b) ∧ w = w' := by
  subst h; exact (c_l00In k lo hi w).mono (by rintro e w' ⟨rfl, rfl⟩; exact ⟨rfl, rfl⟩)
theorem c_l00In_q (k lo hi : Int) (w : World) {b : Bool} (h : inB lo k hi = b) : Calls Try.prog 91 #[.int .i64 k, .int .i64 lo, .int .i64 hi] w fun e w' => e = .returned (.bool b) ∧ w' = w := by
  subst h; exact (c_l00In k lo hi w).mono (by rintro e w' ⟨rfl, rfl⟩; exact ⟨rfl, rfl⟩)
set_option maxHeartbeats 4000000 in
theorem c_impl_ValidClusters (R : Int) (a1 : Option Addr) (cap1 : Nat) (ms : List Nat) (a2 : Option Addr) (cap2 : Nat) (cs : List Int) (w : World) {r : Bool} (hr : clustB R ms cs = r) (hl : ms.length + cs.length ≤ 1048576) (h : Reads2 w a1 ms.length (flos ms) a2 cs.length (ints cs)) (hb : ∀ z ∈ ms, z < 4294967296) :
    Calls Try.prog 18 #[.agg #[.int .i64 R, .slice a1 ms.length cap1, .slice a2 cs.length cap2]] w fun e w' => e = .returned (.bool r) ∧ Ext w w' := by
  have H := Lib.hid h
  have HB := Lib.hid hb
  have hl1 : (ms.length : Int) ≤ 1048576 := by omega
  have hl2 : (cs.length : Int) ≤ 1048576 := by omega
  have HM1 := Lib.hid (show ms.length ≤ maxLen by unfold maxLen; omega)
  have HL2 := Lib.hid (show cs.length ≤ 1048576 by omega)
  clear h hb hl
  by_cases h1 : R < 2
  · have HR := Lib.hid (show r = false by rw [← hr]; exact clustB_dims (dimsU_1 h1))
    clear hr 
    go_enter Try.func18, Try.ntmps18
    go_wp2
    go_ret
    exact ⟨retB (by rw [HR.out]), by (repeat (first | assumption | exact Ext.refl _ | (with_reducible refine Ext.stepS ?_ (by first | exact Nat.le_refl _ | (simp; done) | (simp; omega)) _) | (with_reducible refine Ext.stepN ?_ _) | (with_reducible refine Ext.stepD ?_) | (with_reducible refine Ext.stepA ?_ _)))⟩
  by_cases h2 : 64 < R
  · have HR := Lib.hid (show r = false by rw [← hr]; exact clustB_dims (dimsU_2 h2))
    have h1' : 2 ≤ R := by omega
    clear hr 
    go_enter Try.func18, Try.ntmps18
    go_wp2
    go_ret
    exact ⟨retB (by rw [HR.out]), by (repeat (first | assumption | exact Ext.refl _ | (with_reducible refine Ext.stepS ?_ (by first | exact Nat.le_refl _ | (simp; done) | (simp; omega)) _) | (with_reducible refine Ext.stepN ?_ _) | (with_reducible refine Ext.stepD ?_) | (with_reducible refine Ext.stepA ?_ _)))⟩
  by_cases h3 : 256 < ms.length
  · have HR := Lib.hid (show r = false by rw [← hr]; exact clustB_dims (dimsU_3 h3))
    have h1' : 2 ≤ R := by omega
    have h2' : R ≤ 64 := by omega
    have h3' : (256 : Int) < (ms.length : Int) := by omega
    clear hr 
    go_enter Try.func18, Try.ntmps18
    go_wp2
    go_ret
    exact ⟨retB (by rw [HR.out]), by (repeat (first | assumption | exact Ext.refl _ | (with_reducible refine Ext.stepS ?_ (by first | exact Nat.le_refl _ | (simp; done) | (simp; omega)) _) | (with_reducible refine Ext.stepN ?_ _) | (with_reducible refine Ext.stepD ?_) | (with_reducible refine Ext.stepA ?_ _)))⟩
  by_cases h4 : ¬ cs.length = ms.length
  · have HR := Lib.hid (show r = false by rw [← hr]; exact clustB_dims (dimsU_4 h4))
    have h1' : 2 ≤ R := by omega
    have h2' : R ≤ 64 := by omega
    have h3' : (ms.length : Int) ≤ 256 := by omega
    have h4a : ((cs.length : Int) == (ms.length : Int)) = false := by simp; omega
    have h4b : ((cs.length : Int) != (ms.length : Int)) = true := by simp; omega
    clear hr h4
    go_enter Try.func18, Try.ntmps18
    go_wp2
    go_ret
    exact ⟨retB (by rw [HR.out]), by (repeat (first | assumption | exact Ext.refl _ | (with_reducible refine Ext.stepS ?_ (by first | exact Nat.le_refl _ | (simp; done) | (simp; omega)) _) | (with_reducible refine Ext.stepN ?_ _) | (with_reducible refine Ext.stepD ?_) | (with_reducible refine Ext.stepA ?_ _)))⟩
  have h1' : 2 ≤ R := by omega
  have h2' : R ≤ 64 := by omega
  have h3' : (ms.length : Int) ≤ 256 := by omega
  have h4 : cs.length = ms.length := Classical.byContradiction h4
  have HD := Lib.hid (dimsU_mk h1' h2' (show ms.length ≤ 256 by omega) h4)
  have HE := Lib.hid h4
  have h4a : ((cs.length : Int) == (ms.length : Int)) = true := by simp; omega
  have h4b : ((cs.length : Int) != (ms.length : Int)) = false := by simp; omega
  have hl3 : (cs.length : Int) ≤ 256 := by omega
  have HC := Lib.hid H.out.r2.int.2
  have HR := Lib.hid hr
  have BX := Lib.hid (Box.alloc w #[.int .i64 R, .slice a1 ms.length cap1, .slice a2 cs.length cap2] 28)
  have X0 := Lib.hid (Ext.alloc w (.cells #[.int .i64 R, .slice a1 ms.length cap1, .slice a2 cs.length cap2] 28))
  clear h1 h2 h3 h4 hr
  go_enter Try.func18, Try.ntmps18
  go_wp2
  obtain ⟨u, hu⟩ : ∃ u, w.alloc (.cells #[.int .i64 R, .slice a1 ms.length cap1, .slice a2 cs.length cap2] 28) = u := ⟨_, rfl⟩
  rw [hu] at BX X0 ⊢
  clear hu
  go_loop [31] (fun i => ∃ k : Nat, k ≤ cs.length ∧ i = .int .i64 k ∧ ∀ j, j < k → inB 1 (getI cs j) 1000000 = true) (fun i => cs.length - (intOf i).toNat)
  case atStart => exact ⟨0, Nat.zero_le _, rfl, fun j hj => absurd hj (Nat.not_lt_zero _)⟩
  case round =>
    obtain ⟨k, hk, rfl, hall⟩ := hrel
    have HA := Lib.hid hall
    clear hall
    by_cases hlt : k < cs.length
    · rcases HC.out with h0 | ⟨b, off, rfl, hc⟩
      · omega
      have hcell : u.cell? ⟨b, off + k, none⟩ = some (.int .i64 (getI cs k)) := X0.out.some (hc k hlt)
      obtain ⟨x, hx⟩ : ∃ x, getI cs k = x := ⟨_, rfl⟩
      have HX := Lib.hid hx
      rw [hx] at hcell
      clear hc hx
      cases hin : inB 1 x 1000000
      · have HT := Lib.hid (show r = false by rw [← HR.out]; exact clustB_cnt (allTo_no hlt (by rw [HX.out]; exact hin)))
        by_cases hx1 : x < 1
        · clear hin
          go_wp2
          go_ret
          exact ⟨retB (by rw [HT.out]), X0.out⟩
        · have hx2 : 1000000 < x := Int.not_le.1 (fun q => by rw [inB_is.2 ⟨Int.not_lt.1 hx1, q⟩] at hin; cases hin)
          have hx3 : 1 ≤ x := by omega
          clear hin hx1
          go_wp2
          go_ret
          exact ⟨retB (by rw [HT.out]), X0.out⟩
      · have hx1 := (inB_is.1 hin).1
        have hx2 := (inB_is.1 hin).2
        have HN := Lib.hid (show ∀ j, j < k + 1 → inB 1 (getI cs j) 1000000 = true from fun j hj => by
          by_cases e : j = k
          · subst e; rw [HX.out]; exact hin
          · exact HA.out j (by omega))
        clear hin
        go_wp2
        go_round
        case rel => exact ⟨k + 1, by omega, by go_num, HN.out⟩
        case measure => simp [intOf]; omega
    · obtain rfl : k = cs.length := by omega
      have HCT := Lib.hid (show cntAll cs = true from allTo_yes HA.out)
      have HSB := Lib.hid (show ∀ i, i < cs.length → -1000000000000 ≤ getI cs i ∧ getI cs i ≤ 1000000000000 from fun i hi => by have := inB_is.1 (HA.out i hi); omega)
      obtain ⟨b0, b1, b2⟩ := BX.out.three
      cases hfa : finB ms && ascB ms
      · have HT := Lib.hid (show r = false by rw [← HR.out]; exact clustB_asc hfa)
        have HFA := Lib.hid hfa
        clear hfa
        go_wp2_with (go_at_call 66; refine (c_impl_areAscending _ _ _ ms _ HFA.out HM1.out HB.out (H.out.r1.on X0.out)).mono ?_; rintro e w' ⟨rfl, q, rfl⟩)
        go_ret
        exact ⟨retB (by rw [HT.out]), X0.out.stepN _⟩
      · have HT := Lib.hid (show r = decide (sumTo (getI cs) cs.length ≤ 1000000) by rw [← HR.out]; exact clustB_sum HD.out HCT.out hfa)
        have HFA := Lib.hid hfa
        clear hfa
        go_wp2_with fail
        clear b0 b1 b2
        refine (c_impl_areAscending _ _ _ ms _ HFA.out HM1.out HB.out (H.out.r1.on X0.out)).mono ?_; rintro e w1 ⟨rfl, q, rfl⟩
        obtain ⟨b0, b1, b2⟩ := (BX.out.on (Ext.drewN u q)).three
        obtain ⟨s, hs⟩ : ∃ s, sumTo (getI cs) cs.length = s := ⟨_, rfl⟩
        rw [hs] at HT
        have HS := Lib.hid hs
        clear hs
        by_cases hs6 : s ≤ 1000000
        · go_wp2_with (go_at_call 67; refine (c_impl_sumOfT _ _ _ cs _ HS.out HL2.out HSB.out (H.out.r2.on (X0.out.stepN _))).mono ?_; rintro e w' ⟨rfl, rfl⟩)
          go_ret
          exact ⟨retB (by first | (rw [HT.out]; done) | (rw [HT.out]; rfl) | (rw [HT.out]; first | exact (decide_eq_true hs6).symm | (simp; done) | (simp; omega))), X0.out.stepN _⟩
        · have hs7 : 1000000 < s := by omega
          go_wp2_with (go_at_call 67; refine (c_impl_sumOfT _ _ _ cs _ HS.out HL2.out HSB.out (H.out.r2.on (X0.out.stepN _))).mono ?_; rintro e w' ⟨rfl, rfl⟩)
          go_ret
          exact ⟨retB (by first | (rw [HT.out]; done) | (rw [HT.out]; rfl) | (rw [HT.out]; first | exact (decide_eq_false hs6).symm | (simp; done) | (simp; omega))), X0.out.stepN _⟩
set_option maxHeartbeats 4000000 in
theorem c_spec_l05Clusters (qb : Nat) (R : Int) (a1 : Option Addr) (cap1 : Nat) (ms : List Nat) (a2 : Option Addr) (cap2 : Nat) (cs : List Int) (w : World) {r : Bool} (hr : clustB R ms cs = r) (hl : ms.length + cs.length ≤ 1048576) (h : Reads2 w a1 ms.length (flos ms) a2 cs.length (ints cs))
    (hq : Box w qb 28 #[.int .i64 R, .slice a1 ms.length cap1, .slice a2 cs.length cap2]) :
    Calls Try.prog 64 #[.pointer (some ⟨qb, 0, none⟩)] w fun e w' => e = .returned (.bool r) ∧ ∃ q, w' = w.drewN q := by
  have H := Lib.hid h
  have BX := Lib.hid hq
  have hl1 : (ms.length : Int) ≤ 1048576 := by omega
  have hl2 : (cs.length : Int) ≤ 1048576 := by omega
  have HM1 := Lib.hid (show ms.length ≤ maxLen by unfold maxLen; omega)
  obtain ⟨b0, b1, b2⟩ := BX.out.three
  clear h hq hl
  by_cases h1 : inB 2 R 64 = false
  · have HR := Lib.hid (show r = false by rw [← hr]; exact clustB_dims (by unfold dimsU; rw [h1]; rfl))
    have HI := Lib.hid h1
    clear h1
    clear hr
    go_enter Try.func64, Try.ntmps64
    go_wp2_with (go_at_call 91; refine (c_l00In_w R 2 64 _ HI.out).mono ?_; rintro e w' ⟨rfl, rfl⟩)
    go_ret
    exact ⟨retB (by rw [HR.out]), 0, rfl⟩
  have h1 : inB 2 R 64 = true := by cases hi : inB 2 R 64; exact absurd hi h1; rfl
  have HI := Lib.hid h1
  by_cases h3 : 256 < ms.length
  · have HR := Lib.hid (show r = false by rw [← hr]; exact clustB_dims (dimsU_3 h3))
    have h3' : (256 : Int) < (ms.length : Int) := by omega
    clear h1
    clear hr
    go_enter Try.func64, Try.ntmps64
    go_wp2_with (go_at_call 91; refine (c_l00In_w R 2 64 _ HI.out).mono ?_; rintro e w' ⟨rfl, rfl⟩)
    go_ret
    exact ⟨retB (by rw [HR.out]), 0, rfl⟩
  by_cases h4 : ¬ cs.length = ms.length
  · have HR := Lib.hid (show r = false by rw [← hr]; exact clustB_dims (dimsU_4 h4))
    have h3' : (ms.length : Int) ≤ 256 := by omega
    have h4a : ((cs.length : Int) == (ms.length : Int)) = false := by simp; omega
    have h4b : ((cs.length : Int) != (ms.length : Int)) = true := by simp; omega
    clear h1 h4
    clear hr
    go_enter Try.func64, Try.ntmps64
    go_wp2_with (go_at_call 91; refine (c_l00In_w R 2 64 _ HI.out).mono ?_; rintro e w' ⟨rfl, rfl⟩)
    go_ret
    exact ⟨retB (by rw [HR.out]), 0, rfl⟩
  have h3' : (ms.length : Int) ≤ 256 := by omega
  have h4 : cs.length = ms.length := Classical.byContradiction h4
  have HD := Lib.hid (dimsU_mk (inB_is.1 h1).1 (inB_is.1 h1).2 (show ms.length ≤ 256 by omega) h4)
  have HE := Lib.hid h4
  have h4a : ((cs.length : Int) == (ms.length : Int)) = true := by simp; omega
  have h4b : ((cs.length : Int) != (ms.length : Int)) = false := by simp; omega
  have hl3 : (cs.length : Int) ≤ 256 := by omega
  have HC := Lib.hid H.out.r2.int.2
  have HF := Lib.hid H.out.r1.flo.2
  have HR := Lib.hid hr
  clear h1 h3 h4 hr
  cases hf : finB ms
  · have HT := Lib.hid (show r = false by rw [← HR.out]; exact clustB_asc (by rw [hf]; rfl))
    have HFF := Lib.hid hf
    clear hf
    go_enter Try.func64, Try.ntmps64
    go_wp2_with (first | (go_at_call 91; refine (c_l00In_w R 2 64 _ HI.out).mono ?_; rintro e w' ⟨rfl, rfl⟩) | (go_at_call 120; refine (c_spec_l02Finite _ _ _ ms _ HFF.out HM1.out H.out.r1).mono ?_; rintro e w' ⟨rfl, q, rfl⟩))
    go_ret
    exact ⟨retB (by rw [HT.out]), _, rfl⟩
  have HFF := Lib.hid hf
  clear hf
  go_enter Try.func64, Try.ntmps64
  go_wp2_with fail
  refine (c_l00In_w R 2 64 _ HI.out).mono ?_; rintro e w' ⟨rfl, rfl⟩
  go_wp2_with fail
  clear b0 b1 b2
  refine (c_spec_l02Finite _ _ _ ms _ HFF.out HM1.out H.out.r1).mono ?_; rintro e w' ⟨rfl, q0, rfl⟩
  obtain ⟨b0, b1, b2⟩ := (BX.out.on (Ext.drewN w q0)).three
  go_wp2
  clear b0 b1 b2
  go_loopw [4, 43] (fun s i wr => ∃ k q : Nat, k ≤ ms.length ∧ i = .int .i64 k ∧ s = .int .i64 (sumTo (getI cs) k) ∧ wr = w.drewN q ∧ ∀ j, j < k → upAt ms j = true ∧ inB 1 (getI cs j) 1000000 = true) (fun _ i _ => ms.length - (intOf i).toNat)
  case atStart => exact ⟨0, q0, Nat.zero_le _, rfl, rfl, rfl, fun j hj => absurd hj (Nat.not_lt_zero _)⟩
  case round =>
    obtain ⟨k, q, hk, rfl, rfl, hw, hall⟩ := hrel
    have HA := Lib.hid hall
    have HW := Lib.hid hw
    have HSB := Lib.hid (show 0 ≤ sumTo (getI cs) k ∧ sumTo (getI cs) k ≤ (k : Int) * 1000000000000 from ⟨(sumTo_pos (fun i hi => by have := (inB_is.1 (hall i hi).2).1; omega)).1, (sumTo_bd (fun i hi => by have := inB_is.1 (hall i hi).2; omega)).2⟩)
    clear hall hw
    obtain ⟨b0, b1, b2⟩ := (BX.out.on (show Ext w wr by rw [HW.out]; exact Ext.drewN w q)).three
    by_cases hlt : k < ms.length
    · have HCE := Lib.hid (show k < cs.length by rw [HE.out]; exact hlt)
      have hkc : (k : Int) < (cs.length : Int) := by have := HCE.out; omega
      have hkm : (k : Int) < (ms.length : Int) := by omega
      rcases HC.out with h0 | ⟨cb, co, rfl, hc⟩
      · have := HCE.out; omega
      rcases HF.out with h0 | ⟨fb, fo, rfl, hfc⟩
      · omega
      have ccell : wr.cell? ⟨cb, co + k, none⟩ = some (.int .i64 (getI cs k)) := by rw [HW.out]; exact hc k HCE.out
      have fcell : wr.cell? ⟨fb, fo + k, none⟩ = some (.float .f32 (getN ms k)) := by rw [HW.out]; exact hfc k hlt
      obtain ⟨x, hx⟩ : ∃ x, getI cs k = x := ⟨_, rfl⟩
      obtain ⟨y, hy⟩ : ∃ y, getN ms k = y := ⟨_, rfl⟩
      obtain ⟨s, hs⟩ : ∃ s, sumTo (getI cs) k = s := ⟨_, rfl⟩
      have HX := Lib.hid hx
      have HY := Lib.hid hy
      have HS := Lib.hid hs
      have FY := Lib.hid (show isFin .f32 y = true by rw [← hy]; exact getN_fin HFF.out hlt)
      rw [hx] at ccell
      rw [hy] at fcell
      rw [hs] at HSB ⊢
      have s1 : 0 ≤ s := HSB.out.1
      have s2 : s ≤ 1000000000000000 := by have := HSB.out.2; omega
      by_cases hk0 : k = 0
      · have HU := Lib.hid (show upAt ms k = true from decide_eq_true (.inl hk0))
        have e0 : ¬ (0 : Int) < (k : Int) := by omega
        have e0' : ¬ 0 < k := by omega
        have e0d : decide ((0 : Int) < (k : Int)) = false := by simp; omega
        have e0e : decide (0 < k) = false := by simp; omega
        clear hk0
        cases hin : inB 1 x 1000000
        · have HT := Lib.hid (show r = false by rw [← HR.out]; exact clustB_cnt (allTo_no HCE.out (by rw [HX.out]; exact hin)))
          have HIN := Lib.hid hin
          clear hc hfc hx hy hs hin
          go_wp2
          go_quiet ((go_at_call 91; exact Calls.quiet_of_same (c_l00In_q x 1 1000000 _ HIN.out)))
          go_wp2
          go_ret
          exact ⟨retB (by rw [HT.out]), _, by rw [HW.out, World.drewN_drewN]⟩
        · have HIN := Lib.hid hin
          have x1 := (inB_is.1 hin).1
          have x2 := (inB_is.1 hin).2
          clear hc hfc hx hy hs hin
          go_wp2
          go_quiet ((go_at_call 91; exact Calls.quiet_of_same (c_l00In_q x 1 1000000 _ HIN.out)))
          go_wp2
          go_roundw
          case rel => exact ⟨k + 1, _, by omega, by go_num, by rw [sumTo_succ, HX.out, HS.out], by rw [HW.out, World.drewN_drewN], fun j hj => by
            by_cases e : j = k
            · subst e; exact ⟨HU.out, by rw [HX.out]; exact HIN.out⟩
            · exact HA.out j (by omega)⟩
          case measure => simp [intOf]; omega
      · obtain ⟨i, hi⟩ : ∃ i, k = i + 1 := ⟨k - 1, by omega⟩
        have gcell : wr.cell? ⟨fb, fo + i, none⟩ = some (.float .f32 (getN ms i)) := by rw [HW.out]; exact hfc i (by omega)
        obtain ⟨z, hz⟩ : ∃ z, getN ms i = z := ⟨_, rfl⟩
        have HZ := Lib.hid hz
        rw [hz] at gcell
        have FZ := Lib.hid (show isFin .f32 z = true by rw [← hz]; exact getN_fin HFF.out (by omega))
        have kl := key_lt FY.out FZ.out
        have HU := Lib.hid (show upAt ms k = decide (fkey z ≤ fkey y) by
          unfold upAt
          rw [show k - 1 = i by omega, hy, hz]
          by_cases e : fkey z ≤ fkey y
          · rw [decide_eq_true e, decide_eq_true (.inr e)]
          · rw [decide_eq_false e, decide_eq_false (by omega)])
        have e1 : (k : Int) - 1 = (i : Int) := by omega
        have e2 : (0 : Int) < (k : Int) := by omega
        have e2' : 0 < k := by omega
        have e3 : (i : Int) < (ms.length : Int) := by omega
        have e4 : (0 : Int) ≤ (i : Int) := by omega
        have HI1 := Lib.hid hi
        by_cases hyz : fkey y < fkey z
        · rw [decide_eq_true hyz] at kl
          have HT := Lib.hid (show r = false by
            rw [← HR.out]
            refine clustB_asc ?_
            rw [show ascB ms = false from allTo_no hlt (by rw [HU.out]; exact decide_eq_false (by omega))]
            simp)
          clear hc hfc hx hy hs hz hi hyz
          go_wp2
          go_quiet (fail)
          go_wp2
          go_ret
          exact ⟨retB (by rw [HT.out]), _, by rw [HW.out, World.drewN_drewN]⟩
        · rw [decide_eq_false hyz] at kl
          have HUT := Lib.hid (show upAt ms k = true by rw [HU.out]; exact decide_eq_true (by omega))
          cases hin : inB 1 x 1000000
          · have HT := Lib.hid (show r = false by rw [← HR.out]; exact clustB_cnt (allTo_no HCE.out (by rw [HX.out]; exact hin)))
            have HIN := Lib.hid hin
            clear hc hfc hx hy hs hin hz hi hyz
            go_wp2
            go_quiet ((go_at_call 91; exact Calls.quiet_of_same (c_l00In_q x 1 1000000 _ HIN.out)))
            go_wp2
            go_ret
            exact ⟨retB (by rw [HT.out]), _, by rw [HW.out, World.drewN_drewN]⟩
          · have HIN := Lib.hid hin
            have x1 := (inB_is.1 hin).1
            have x2 := (inB_is.1 hin).2
            clear hc hfc hx hy hs hin hz hi hyz
            go_wp2
            go_quiet ((go_at_call 91; exact Calls.quiet_of_same (c_l00In_q x 1 1000000 _ HIN.out)))
            go_wp2
            go_roundw
            case rel => exact ⟨k + 1, _, by omega, by go_num, by rw [sumTo_succ, HX.out, HS.out], by rw [HW.out, World.drewN_drewN], fun j hj => by
              by_cases e : j = k
              · subst e; exact ⟨HUT.out, by rw [HX.out]; exact HIN.out⟩
              · exact HA.out j (by omega)⟩
            case measure => simp [intOf]; omega
    · obtain rfl : k = ms.length := by omega
      have HCT := Lib.hid (show cntAll cs = true from allTo_yes fun i hi => (HA.out i (by rw [← HE.out]; exact hi)).2)
      have HAS := Lib.hid (show (finB ms && ascB ms) = true by rw [HFF.out, show ascB ms = true from allTo_yes fun i hi => (HA.out i hi).1]; rfl)
      obtain ⟨s, hs⟩ : ∃ s, sumTo (getI cs) ms.length = s := ⟨_, rfl⟩
      have HT := Lib.hid (show r = decide (s ≤ 1000000) by rw [← HR.out, clustB_sum HD.out HCT.out HAS.out, HE.out, hs])
      rw [hs]
      clear hs
      by_cases hs6 : s ≤ 1000000
      · go_wp2
        go_ret
        exact ⟨retB (by first | (rw [HT.out]; done) | (rw [HT.out]; rfl) | (rw [HT.out]; first | exact (decide_eq_true hs6).symm | (simp; done) | (simp; omega))), _, HW.out⟩
      · have hs7 : 1000000 < s := by omega
        go_wp2
        go_ret
        exact ⟨retB (by first | (rw [HT.out]; done) | (rw [HT.out]; rfl) | (rw [HT.out]; first | exact (decide_eq_false hs6).symm | (simp; done) | (simp; omega))), _, HW.out⟩
theorem c_spec_ValidClusters (R : Int) (a1 : Option Addr) (cap1 : Nat) (ms : List Nat) (a2 : Option Addr) (cap2 : Nat) (cs : List Int) (w : World) {r : Bool} (hr : clustB R ms cs = r) (hl : ms.length + cs.length ≤ 1048576) (h : Reads2 w a1 ms.length (flos ms) a2 cs.length (ints cs)) (hb : ∀ z ∈ ms, z < 4294967296) :
    Calls Try.prog 16 #[.agg #[.int .i64 R, .slice a1 ms.length cap1, .slice a2 cs.length cap2]] w fun e w' => e = .returned (.bool r) ∧ Ext w w' := by
  have H := Lib.hid h
  have HR := Lib.hid hr
  clear h hr hb
  go_enter Try.func16, Try.ntmps16
  go_wp2_with (go_at_call 64; refine (c_spec_l05Clusters _ R a1 cap1 ms a2 cap2 cs _ HR.out hl (H.out.on (Ext.alloc _ _)) (Box.alloc _ _ _)).mono ?_; rintro e w' ⟨rfl, q, rfl⟩)
  go_ret
  exact ⟨rfl, ((Ext.refl _).stepA _).stepN _⟩
end Go.Proofs.Ytmgkbgdbahijnab
