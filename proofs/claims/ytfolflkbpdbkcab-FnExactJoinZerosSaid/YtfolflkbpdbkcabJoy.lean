/- JoinZeros: the other side. -/
import Derived.Test.YtfolflkbpdbkcabJoz
namespace Go.Proofs.Ytfolflkbpdbkcab
open Go.ChangeShapes Go.WideShapes Go.ChangeAt Go.RowKit
set_option linter.unusedVariables false
theorem c_spec_l00Max_v (x y z : Int) (w : World) (h : max x y = z) : Calls Try.prog 85 #[.int .i64 x, .int .i64 y] w fun e w' => e = .returned (.int .i64 z) ∧ w = w' := by
  by_cases hxy : y < x
  · have H := Lib.hid (show x = z by omega)
    clear h
    go_enter Try.func85, Try.ntmps85
    go_wp2
    go_ret
    exact ⟨by rw [H.out]; rfl, rfl⟩
  · have H := Lib.hid (show y = z by omega)
    clear h
    go_enter Try.func85, Try.ntmps85
    go_wp2
    go_ret
    exact ⟨by rw [H.out]; rfl, rfl⟩
set_option maxHeartbeats 4000000 in
theorem c_spec_JoinZeros (Sa : Int) (a : Option Addr) (n cap : Nat) (xs : List Int) (Sb : Int) (b : Option Addr) (n2 cap2 : Nat) (ys : List Int) (w : World) {V : FV} {v : Bool} (hv : joinZR Sa xs Sb ys = (V, v)) (hm : n ≤ maxLen) (h : Reads w a n (ints xs)) (hm2 : n2 ≤ maxLen) (h2 : Reads w b n2 (ints ys)) :
    Calls Try.prog 50 #[.agg #[.int .i64 Sa, .slice a n cap], .agg #[.int .i64 Sb, .slice b n2 cap2]] w (RetKFB 2 V v w) := by
  have hn := h.int.1
  subst hn
  have hn2 := h2.int.1
  subst hn2
  have H := Lib.hid h
  have H2 := Lib.hid h2
  have BA := Lib.hid (((Box.alloc w #[.int .i64 Sa, .slice a xs.length cap] 54).past (.cells #[.int .i64 Sb, .slice b ys.length cap2] 54)).past (.cells #[.int .i64 0, .slice none 0 0] 54))
  have BB := Lib.hid ((Box.alloc_at (w.alloc (.cells #[.int .i64 Sa, .slice a xs.length cap] 54)) #[.int .i64 Sb, .slice b ys.length cap2] 54 (b := w.heap.size + 1) (by simp)).past (.cells #[.int .i64 0, .slice none 0 0] 54))
  have BZ := Lib.hid (Box.alloc_at ((w.alloc (.cells #[.int .i64 Sa, .slice a xs.length cap] 54)).alloc (.cells #[.int .i64 Sb, .slice b ys.length cap2] 54)) #[.int .i64 0, .slice none 0 0] 54 (b := w.heap.size + 2) (by simp))
  clear h h2
  cases h1 : zerB Sa xs
  · rw [joinZR_no (likeZ_1 h1)] at hv
    simp only [Prod.mk.injEq] at hv
    obtain ⟨rfl, rfl⟩ := hv
    have Q1 := Lib.hid h1
    clear h1
    go_enter Try.func50, Try.ntmps50
    go_wp2_with (go_at_call_of 82 (Value.pointer (some ⟨w.heap.size, 0, none⟩)); refine (c_spec_l04Zeros w.heap.size Sa a xs.length cap xs _ Q1.out (BA.out.on (by (repeat (first | assumption | exact Ext.refl _ | (with_reducible refine Ext.stepS ?_ (by first | exact Nat.le_refl _ | (simp; done) | (simp; omega)) _) | (with_reducible refine Ext.stepN ?_ _) | (with_reducible refine Ext.stepD ?_) | (with_reducible refine Ext.stepA ?_ _))))) hm (H.out.on (by (repeat (first | assumption | exact Ext.refl _ | (with_reducible refine Ext.stepS ?_ (by first | exact Nat.le_refl _ | (simp; done) | (simp; omega)) _) | (with_reducible refine Ext.stepN ?_ _) | (with_reducible refine Ext.stepD ?_) | (with_reducible refine Ext.stepA ?_ _)))))).mono ?_; rintro e u1 ⟨rfl, q1, rfl⟩)
    refine bodyPost_ret (v := .tuple #[.agg #[.int .i64 0, .slice none 0 0], .bool false]) (by simp [results, Try.results50, go_sem]) rfl ⟨none, 0, rfl, Own.nil _ _ _ _, ?_⟩
    (repeat (first | assumption | exact Ext.refl _ | (with_reducible refine Ext.stepS ?_ (by first | exact Nat.le_refl _ | (simp; done) | (simp; omega)) _) | (with_reducible refine Ext.stepN ?_ _) | (with_reducible refine Ext.stepD ?_) | (with_reducible refine Ext.stepA ?_ _)))
  have Q1 := Lib.hid h1
  cases h2 : zerB Sb ys
  · rw [joinZR_no (likeZ_2 h2)] at hv
    simp only [Prod.mk.injEq] at hv
    obtain ⟨rfl, rfl⟩ := hv
    have Q2 := Lib.hid h2
    clear h1 h2
    go_enter Try.func50, Try.ntmps50
    go_wp2_with fail
    refine (c_spec_l04Zeros w.heap.size Sa a xs.length cap xs _ Q1.out (BA.out.on (by (repeat (first | assumption | exact Ext.refl _ | (with_reducible refine Ext.stepS ?_ (by first | exact Nat.le_refl _ | (simp; done) | (simp; omega)) _) | (with_reducible refine Ext.stepN ?_ _) | (with_reducible refine Ext.stepD ?_) | (with_reducible refine Ext.stepA ?_ _))))) hm (H.out.on (by (repeat (first | assumption | exact Ext.refl _ | (with_reducible refine Ext.stepS ?_ (by first | exact Nat.le_refl _ | (simp; done) | (simp; omega)) _) | (with_reducible refine Ext.stepN ?_ _) | (with_reducible refine Ext.stepD ?_) | (with_reducible refine Ext.stepA ?_ _)))))).mono ?_; rintro e u1 ⟨rfl, q1, rfl⟩
    go_wp2_with fail
    refine (c_spec_l04Zeros (w.heap.size + 1) Sb b ys.length cap2 ys _ Q2.out (BB.out.on (by (repeat (first | assumption | exact Ext.refl _ | (with_reducible refine Ext.stepS ?_ (by first | exact Nat.le_refl _ | (simp; done) | (simp; omega)) _) | (with_reducible refine Ext.stepN ?_ _) | (with_reducible refine Ext.stepD ?_) | (with_reducible refine Ext.stepA ?_ _))))) hm2 (H2.out.on (by (repeat (first | assumption | exact Ext.refl _ | (with_reducible refine Ext.stepS ?_ (by first | exact Nat.le_refl _ | (simp; done) | (simp; omega)) _) | (with_reducible refine Ext.stepN ?_ _) | (with_reducible refine Ext.stepD ?_) | (with_reducible refine Ext.stepA ?_ _)))))).mono ?_; rintro e u2 ⟨rfl, q2, rfl⟩
    go_wp2
    refine bodyPost_ret (v := .tuple #[.agg #[.int .i64 0, .slice none 0 0], .bool false]) (by simp [results, Try.results50, go_sem]) rfl ⟨none, 0, rfl, Own.nil _ _ _ _, ?_⟩
    (repeat (first | assumption | exact Ext.refl _ | (with_reducible refine Ext.stepS ?_ (by first | exact Nat.le_refl _ | (simp; done) | (simp; omega)) _) | (with_reducible refine Ext.stepN ?_ _) | (with_reducible refine Ext.stepD ?_) | (with_reducible refine Ext.stepA ?_ _)))
  have Q2 := Lib.hid h2
  clear h1 h2
  by_cases hS : Sa = Sb
  rotate_left
  · rw [joinZR_no (likeZ_3 hS)] at hv
    simp only [Prod.mk.injEq] at hv
    obtain ⟨rfl, rfl⟩ := hv
    have hs1 : (Sa == Sb) = false := by simpa using hS
    have hs2 : (Sa != Sb) = true := by simpa using hS
    go_enter Try.func50, Try.ntmps50
    go_wp2_with fail
    refine (c_spec_l04Zeros w.heap.size Sa a xs.length cap xs _ Q1.out (BA.out.on (by (repeat (first | assumption | exact Ext.refl _ | (with_reducible refine Ext.stepS ?_ (by first | exact Nat.le_refl _ | (simp; done) | (simp; omega)) _) | (with_reducible refine Ext.stepN ?_ _) | (with_reducible refine Ext.stepD ?_) | (with_reducible refine Ext.stepA ?_ _))))) hm (H.out.on (by (repeat (first | assumption | exact Ext.refl _ | (with_reducible refine Ext.stepS ?_ (by first | exact Nat.le_refl _ | (simp; done) | (simp; omega)) _) | (with_reducible refine Ext.stepN ?_ _) | (with_reducible refine Ext.stepD ?_) | (with_reducible refine Ext.stepA ?_ _)))))).mono ?_; rintro e u1 ⟨rfl, q1, rfl⟩
    go_wp2_with fail
    refine (c_spec_l04Zeros (w.heap.size + 1) Sb b ys.length cap2 ys _ Q2.out (BB.out.on (by (repeat (first | assumption | exact Ext.refl _ | (with_reducible refine Ext.stepS ?_ (by first | exact Nat.le_refl _ | (simp; done) | (simp; omega)) _) | (with_reducible refine Ext.stepN ?_ _) | (with_reducible refine Ext.stepD ?_) | (with_reducible refine Ext.stepA ?_ _))))) hm2 (H2.out.on (by (repeat (first | assumption | exact Ext.refl _ | (with_reducible refine Ext.stepS ?_ (by first | exact Nat.le_refl _ | (simp; done) | (simp; omega)) _) | (with_reducible refine Ext.stepN ?_ _) | (with_reducible refine Ext.stepD ?_) | (with_reducible refine Ext.stepA ?_ _)))))).mono ?_; rintro e u2 ⟨rfl, q2, rfl⟩
    go_wp2
    refine bodyPost_ret (v := .tuple #[.agg #[.int .i64 0, .slice none 0 0], .bool false]) (by simp [results, Try.results50, go_sem]) rfl ⟨none, 0, rfl, Own.nil _ _ _ _, ?_⟩
    (repeat (first | assumption | exact Ext.refl _ | (with_reducible refine Ext.stepS ?_ (by first | exact Nat.le_refl _ | (simp; done) | (simp; omega)) _) | (with_reducible refine Ext.stepN ?_ _) | (with_reducible refine Ext.stepD ?_) | (with_reducible refine Ext.stepA ?_ _)))
  subst hS
  by_cases hL : xs.length = ys.length
  rotate_left
  · rw [joinZR_no (likeZ_4 hL)] at hv
    simp only [Prod.mk.injEq] at hv
    obtain ⟨rfl, rfl⟩ := hv
    have hs1 : ((xs.length : Int) == (ys.length : Int)) = false := by simp; omega
    have hs2 : ((xs.length : Int) != (ys.length : Int)) = true := by simp; omega
    clear hL
    go_enter Try.func50, Try.ntmps50
    go_wp2_with fail
    refine (c_spec_l04Zeros w.heap.size Sa a xs.length cap xs _ Q1.out (BA.out.on (by (repeat (first | assumption | exact Ext.refl _ | (with_reducible refine Ext.stepS ?_ (by first | exact Nat.le_refl _ | (simp; done) | (simp; omega)) _) | (with_reducible refine Ext.stepN ?_ _) | (with_reducible refine Ext.stepD ?_) | (with_reducible refine Ext.stepA ?_ _))))) hm (H.out.on (by (repeat (first | assumption | exact Ext.refl _ | (with_reducible refine Ext.stepS ?_ (by first | exact Nat.le_refl _ | (simp; done) | (simp; omega)) _) | (with_reducible refine Ext.stepN ?_ _) | (with_reducible refine Ext.stepD ?_) | (with_reducible refine Ext.stepA ?_ _)))))).mono ?_; rintro e u1 ⟨rfl, q1, rfl⟩
    go_wp2_with fail
    refine (c_spec_l04Zeros (w.heap.size + 1) Sa b ys.length cap2 ys _ Q2.out (BB.out.on (by (repeat (first | assumption | exact Ext.refl _ | (with_reducible refine Ext.stepS ?_ (by first | exact Nat.le_refl _ | (simp; done) | (simp; omega)) _) | (with_reducible refine Ext.stepN ?_ _) | (with_reducible refine Ext.stepD ?_) | (with_reducible refine Ext.stepA ?_ _))))) hm2 (H2.out.on (by (repeat (first | assumption | exact Ext.refl _ | (with_reducible refine Ext.stepS ?_ (by first | exact Nat.le_refl _ | (simp; done) | (simp; omega)) _) | (with_reducible refine Ext.stepN ?_ _) | (with_reducible refine Ext.stepD ?_) | (with_reducible refine Ext.stepA ?_ _)))))).mono ?_; rintro e u2 ⟨rfl, q2, rfl⟩
    go_wp2
    refine bodyPost_ret (v := .tuple #[.agg #[.int .i64 0, .slice none 0 0], .bool false]) (by simp [results, Try.results50, go_sem]) rfl ⟨none, 0, rfl, Own.nil _ _ _ _, ?_⟩
    (repeat (first | assumption | exact Ext.refl _ | (with_reducible refine Ext.stepS ?_ (by first | exact Nat.le_refl _ | (simp; done) | (simp; omega)) _) | (with_reducible refine Ext.stepN ?_ _) | (with_reducible refine Ext.stepD ?_) | (with_reducible refine Ext.stepA ?_ _)))
  rw [joinZR_y (likeZ_y Q1.out Q2.out hL)] at hv
  simp only [Prod.mk.injEq] at hv
  obtain ⟨hv, rfl⟩ := hv
  have HV := Lib.hid hv
  have hzl := zer_len Q1.out
  have HL := Lib.hid hL
  have HYL := Lib.hid hL.symm
  rw [hL.symm] at BA BB BZ H2 hm2 ⊢
  clear hv hL
  go_enter Try.func50, Try.ntmps50
  go_wp2_with fail
  refine (c_spec_l04Zeros w.heap.size Sa a xs.length cap xs _ Q1.out (BA.out.on (by (repeat (first | assumption | exact Ext.refl _ | (with_reducible refine Ext.stepS ?_ (by first | exact Nat.le_refl _ | (simp; done) | (simp; omega)) _) | (with_reducible refine Ext.stepN ?_ _) | (with_reducible refine Ext.stepD ?_) | (with_reducible refine Ext.stepA ?_ _))))) hm (H.out.on (by (repeat (first | assumption | exact Ext.refl _ | (with_reducible refine Ext.stepS ?_ (by first | exact Nat.le_refl _ | (simp; done) | (simp; omega)) _) | (with_reducible refine Ext.stepN ?_ _) | (with_reducible refine Ext.stepD ?_) | (with_reducible refine Ext.stepA ?_ _)))))).mono ?_; rintro e u1 ⟨rfl, q1, rfl⟩
  go_wp2_with fail
  refine (c_spec_l04Zeros (w.heap.size + 1) Sa b xs.length cap2 ys _ Q2.out (BB.out.on (by (repeat (first | assumption | exact Ext.refl _ | (with_reducible refine Ext.stepS ?_ (by first | exact Nat.le_refl _ | (simp; done) | (simp; omega)) _) | (with_reducible refine Ext.stepN ?_ _) | (with_reducible refine Ext.stepD ?_) | (with_reducible refine Ext.stepA ?_ _))))) hm2 (H2.out.on (by (repeat (first | assumption | exact Ext.refl _ | (with_reducible refine Ext.stepS ?_ (by first | exact Nat.le_refl _ | (simp; done) | (simp; omega)) _) | (with_reducible refine Ext.stepN ?_ _) | (with_reducible refine Ext.stepD ?_) | (with_reducible refine Ext.stepA ?_ _)))))).mono ?_; rintro e u2 ⟨rfl, q2, rfl⟩
  go_wp2_with fail
  refine (c_spec_l04OwnZeros w.heap.size Sa a xs.length cap xs _ (by omega) (by omega) (BA.out.on (by (repeat (first | assumption | exact Ext.refl _ | (with_reducible refine Ext.stepS ?_ (by first | exact Nat.le_refl _ | (simp; done) | (simp; omega)) _) | (with_reducible refine Ext.stepN ?_ _) | (with_reducible refine Ext.stepD ?_) | (with_reducible refine Ext.stepA ?_ _))))) (H.out.on (by (repeat (first | assumption | exact Ext.refl _ | (with_reducible refine Ext.stepS ?_ (by first | exact Nat.le_refl _ | (simp; done) | (simp; omega)) _) | (with_reducible refine Ext.stepN ?_ _) | (with_reducible refine Ext.stepD ?_) | (with_reducible refine Ext.stepA ?_ _)))))).mono ?_; rintro e wa ⟨g, c2, f2, rfl, hg, hc2, hrow, x'⟩
  have X1 := Lib.hid (show Ext w wa from Ext.trans (by (repeat (first | assumption | exact Ext.refl _ | (with_reducible refine Ext.stepS ?_ (by first | exact Nat.le_refl _ | (simp; done) | (simp; omega)) _) | (with_reducible refine Ext.stepN ?_ _) | (with_reducible refine Ext.stepD ?_) | (with_reducible refine Ext.stepA ?_ _)))) x')
  have BZ1 := Lib.hid (show Box wa (w.heap.size + 2) 54 _ from Box.on BZ.out (Ext.trans (by (repeat (first | assumption | exact Ext.refl _ | (with_reducible refine Ext.stepS ?_ (by first | exact Nat.le_refl _ | (simp; done) | (simp; omega)) _) | (with_reducible refine Ext.stepN ?_ _) | (with_reducible refine Ext.stepD ?_) | (with_reducible refine Ext.stepA ?_ _)))) x'))
  have BA1 := Lib.hid (show Box wa w.heap.size 54 _ from Box.on BA.out (Ext.trans (by (repeat (first | assumption | exact Ext.refl _ | (with_reducible refine Ext.stepS ?_ (by first | exact Nat.le_refl _ | (simp; done) | (simp; omega)) _) | (with_reducible refine Ext.stepN ?_ _) | (with_reducible refine Ext.stepD ?_) | (with_reducible refine Ext.stepA ?_ _)))) x'))
  have BB1 := Lib.hid (show Box wa (w.heap.size + 1) 54 _ from Box.on BB.out (Ext.trans (by (repeat (first | assumption | exact Ext.refl _ | (with_reducible refine Ext.stepS ?_ (by first | exact Nat.le_refl _ | (simp; done) | (simp; omega)) _) | (with_reducible refine Ext.stepN ?_ _) | (with_reducible refine Ext.stepD ?_) | (with_reducible refine Ext.stepA ?_ _)))) x'))
  have HG := Lib.hid (show w.heap.size + 3 ≤ g from Nat.le_trans (by first | omega | (simp; done) | (simp; omega)) hg)
  have HGL := Lib.hid hrow.lt
  have hgl := hrow.lt
  obtain ⟨w1, hw1⟩ : ∃ w1, wa.alloc (.cells #[.int .i64 Sa, .slice (some ⟨g, 0, none⟩) xs.length c2] 54) = w1 := ⟨_, rfl⟩
  have HRW := Lib.hid (show w1.rowIs g 2 c2 (rowT xs f2) by rw [← hw1]; exact rowIs_on hrow (Ext.alloc wa _))
  have BO := Lib.hid (show Box w1 wa.heap.size 54 #[.int .i64 Sa, .slice (some ⟨g, 0, none⟩) xs.length c2] by rw [← hw1]; exact Box.alloc wa _ _)
  have BZ2 := Lib.hid (show Box w1 (w.heap.size + 2) 54 _ by rw [← hw1]; exact BZ1.out.past _)
  have BA2 := Lib.hid (show Box w1 w.heap.size 54 _ by rw [← hw1]; exact BA1.out.past _)
  have BB2 := Lib.hid (show Box w1 (w.heap.size + 1) 54 _ by rw [← hw1]; exact BB1.out.past _)
  have X2 := Lib.hid (show Ext w w1 by rw [← hw1]; exact X1.out.stepA _)
  have HSA := Lib.hid (show w.heap.size + 3 ≤ wa.heap.size by have := BZ1.out.lt; omega)
  clear hrow hg x'
  go_wp2_with fail
  try rw [hw1]
  clear hw1
  go_loopw [7] (fun i wr => ∃ k : Nat, k ≤ xs.length ∧ i = .int .i64 k ∧ wr.rowIs g 2 c2 (rowT (maxUp xs ys k) f2) ∧ Touch g (g + 1) w1 wr) (fun i _ => xs.length - (intOf i).toNat)
  case atStart => exact ⟨0, Nat.zero_le _, rfl, HRW.out, Touch.refl _ _ _⟩
  case round =>
    obtain ⟨k, hk, rfl, hrow, ht⟩ := hrel
    have HRR := Lib.hid hrow
    have HT := Lib.hid ht
    have HBB := Lib.hid (BO.out.beside ht (by have := HGL.out; omega))
    have HX := Lib.hid (show Ext w wr from Touch.ext X2.out ht (by have := HG.out; omega))
    have BA3 := Lib.hid (BA2.out.beside ht (by have := HG.out; omega))
    have BB3 := Lib.hid (BB2.out.beside ht (by have := HG.out; omega))
    have BZ3 := Lib.hid (BZ2.out.beside ht (by have := HG.out; omega))
    clear hrow ht
    obtain ⟨a0, a1⟩ := BA3.out.two
    obtain ⟨b0, b1⟩ := BB3.out.two
    by_cases hlt : k < xs.length
    · obtain ⟨pb, po, rfl, hpc⟩ : ∃ b' off, b = some ⟨b', off, none⟩ ∧ wr.cell? ⟨b', off + k, none⟩ = some (.int .i64 (ys[k]?.getD 0)) := by
        obtain ⟨_, hq⟩ := (H2.out.on HX.out).int
        rcases hq with h0 | ⟨b', off', rfl, hq⟩
        · omega
        · exact ⟨b', off', rfl, hq k hlt⟩
      obtain ⟨ab, ao, rfl, hac⟩ : ∃ b' off, a = some ⟨b', off, none⟩ ∧ wr.cell? ⟨b', off + k, none⟩ = some (.int .i64 (xs[k]?.getD 0)) := by
        obtain ⟨_, hq⟩ := (H.out.on HX.out).int
        rcases hq with h0 | ⟨b', off', rfl, hq⟩
        · omega
        · exact ⟨b', off', rfl, hq k hlt⟩
      have hgc := HRR.out.cell (i := k) (by omega)
      rw [rowT_at (by rw [maxUp_length]; exact hlt), maxUp_get xs ys k k (Nat.le_refl _)] at hgc
      have hgf := HRR.out.frozen k
      obtain ⟨x, hx⟩ : ∃ x, xs[k]?.getD 0 = x := ⟨_, rfl⟩
      obtain ⟨y, hy⟩ : ∃ y, ys[k]?.getD 0 = y := ⟨_, rfl⟩
      obtain ⟨z, hz⟩ : ∃ z, max x y = z := ⟨_, rfl⟩
      have HS := Lib.hid (show (wr.setCell ⟨g, k, none⟩ (.int .i64 z)).rowIs g 2 c2 (rowT (maxUp xs ys (k + 1)) f2) from by
        have := rowT_set HRR.out (k := k) (by rw [maxUp_length]; exact hlt) z
        show World.rowIs _ _ _ _ (rowT ((maxUp xs ys k).set k (max (xs[k]?.getD 0) (ys[k]?.getD 0))) f2)
        rw [hx, hy, hz]
        exact this)
      obtain ⟨n0, n1⟩ := HBB.out.two
      rw [hx] at hgc hac
      rw [hy] at hpc
      clear hx hy
      have HZ := Lib.hid hz
      have hkl : (k : Int) < (xs.length : Int) := by omega
      have hk0 : (0 : Int) ≤ (k : Int) := by omega
      clear hz
      go_wp2_with fail
      go_region_with (go_at_call 85; refine (c_spec_l00Max_v x y z _ HZ.out).mono ?_; rintro e w' ⟨rfl, rfl⟩)
      all_goals
        go_wp2
        go_roundw
        case rel => exact ⟨k + 1, by omega, by go_num, HS.out, (HT.out.of_drew _).one _ _⟩
        case measure => simp [intOf]; omega
    · obtain rfl : k = xs.length := by omega
      obtain ⟨NZ, hNZ⟩ : ∃ z, maxUp xs ys xs.length = z := ⟨_, rfl⟩
      have hNL : NZ.length = xs.length := by rw [← hNZ, maxUp_length]
      have HVV := Lib.hid (show V = ⟨Sa, NZ⟩ by rw [← hNZ]; exact HV.out.symm)
      have HRN := Lib.hid (show wr.rowIs g 2 c2 (rowT NZ f2) by rw [← hNZ]; exact HRR.out)
      have HON := Lib.hid (own_rowT (lo := w.heap.size + 3) (by omega) HG.out HRN.out)
      have HZN := BZ3
      have HEW := HX
      have HNL := Lib.hid hNL
      obtain ⟨n0, n1⟩ := HBB.out.two
      obtain ⟨z0, z1⟩ := HZN.out.two
      obtain ⟨y0, y1, y2, y3⟩ := HZN.out.free
      have hnbz : w.heap.size + 2 ≠ wa.heap.size := by have := HSA.out; omega
      have hnbz' : wa.heap.size ≠ w.heap.size + 2 := fun h => hnbz h.symm
      clear hNZ hNL
      go_wp2
      refine bodyPost_ret (v := .tuple #[.agg #[.int .i64 Sa, .slice (some ⟨g, 0, none⟩) xs.length c2], .bool true]) (by simp [results, Try.results50, go_sem, z0, z1]) rfl ⟨some ⟨g, 0, none⟩, c2, by rw [HVV.out, HNL.out], ?_, ?_⟩
      · rw [HVV.out]
        refine own_touch HON.out (lo' := w.heap.size + 2) (hi' := w.heap.size + 3) ?_ (by omega) (by have := HX.out.size; have := X2.out.size; have := HSA.out; have := BZ3.out.lt; omega) (Nat.le_refl _)
        (repeat (first | assumption | exact Touch.refl _ _ _ | (with_reducible refine Touch.stepS ?_ (by first | exact Nat.le_refl _ | (simp; done) | (simp; omega)) (by first | (simp; done) | (simp; omega)) _) | (with_reducible refine Touch.stepN ?_ _) | (with_reducible refine Touch.stepA ?_ _)))
      · have HEW' := HEW.out
        (repeat (first | assumption | exact Ext.refl _ | (with_reducible refine Ext.stepS ?_ (by first | exact Nat.le_refl _ | (simp; done) | (simp; omega)) _) | (with_reducible refine Ext.stepN ?_ _) | (with_reducible refine Ext.stepD ?_) | (with_reducible refine Ext.stepA ?_ _)))
end Go.Proofs.Ytfolflkbpdbkcab
