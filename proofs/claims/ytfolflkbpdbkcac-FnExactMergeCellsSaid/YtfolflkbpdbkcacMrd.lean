/- MergeCells: the other side. -/
import Derived.Test.YtfolflkbpdbkcacMrc
import Derived.Test.YtfolflkbpdbkcacLkf
namespace Go.Proofs.Ytfolflkbpdbkcac
open Go.ChangeShapes Go.WideShapes Go.ChangeAt Go.RowKit
set_option linter.unusedVariables false
set_option maxRecDepth 100000 in
set_option maxHeartbeats 4000000 in
theorem c_spec_MergeCells (W D S : Int) (a : Option Addr) (n cap : Nat) (xs : List Int) (W' D' S' : Int) (b : Option Addr) (n2 cap2 : Nat) (ys : List Int) (w : World) {V : CV} {v : Bool} (hv : mergeR W D S xs W' D' S' ys = (V, v)) (hm : n ≤ maxLen) (h : Reads w a n (ints xs)) (hm2 : n2 ≤ maxLen) (h2 : Reads w b n2 (ints ys)) :
    Calls Try.prog 42 #[.agg #[.int .i64 W, .int .i64 D, .int .i64 S, .slice a n cap], .agg #[.int .i64 W', .int .i64 D', .int .i64 S', .slice b n2 cap2]] w (RetCB 2 V v w) := by
  have hn := h.int.1
  subst hn
  have hn2 := h2.int.1
  subst hn2
  have H := Lib.hid h
  have H2 := Lib.hid h2
  have BA := Lib.hid (((Box.alloc w #[.int .i64 W, .int .i64 D, .int .i64 S, .slice a xs.length cap] 54).past (.cells #[.int .i64 W', .int .i64 D', .int .i64 S', .slice b ys.length cap2] 54)).past (.cells #[.int .i64 0, .int .i64 0, .int .i64 0, .slice none 0 0] 54))
  have BB := Lib.hid ((Box.alloc_at (w.alloc (.cells #[.int .i64 W, .int .i64 D, .int .i64 S, .slice a xs.length cap] 54)) #[.int .i64 W', .int .i64 D', .int .i64 S', .slice b ys.length cap2] 54 (b := w.heap.size + 1) (by simp)).past (.cells #[.int .i64 0, .int .i64 0, .int .i64 0, .slice none 0 0] 54))
  have BZ := Lib.hid (Box.alloc_at ((w.alloc (.cells #[.int .i64 W, .int .i64 D, .int .i64 S, .slice a xs.length cap] 54)).alloc (.cells #[.int .i64 W', .int .i64 D', .int .i64 S', .slice b ys.length cap2] 54)) #[.int .i64 0, .int .i64 0, .int .i64 0, .slice none 0 0] 54 (b := w.heap.size + 2) (by simp))
  clear h h2
  cases h1 : mergeB W D S xs W' D' S' ys
  · rw [mergeR_no h1] at hv
    simp only [Prod.mk.injEq] at hv
    obtain ⟨rfl, rfl⟩ := hv
    have Q1 := Lib.hid h1
    clear h1
    go_enter Try.func42, Try.ntmps42
    go_wp2_with (go_at_call 95; refine (c_spec_l03Like w.heap.size (w.heap.size + 1) W D S a xs.length cap xs W' D' S' b ys.length cap2 ys _ Q1.out hm (H.out.on (by (repeat (first | assumption | exact Ext.refl _ | (with_reducible refine Ext.stepS ?_ (by first | exact Nat.le_refl _ | (simp; done) | (simp; omega)) _) | (with_reducible refine Ext.stepN ?_ _) | (with_reducible refine Ext.stepD ?_) | (with_reducible refine Ext.stepA ?_ _))))) hm2 (H2.out.on (by (repeat (first | assumption | exact Ext.refl _ | (with_reducible refine Ext.stepS ?_ (by first | exact Nat.le_refl _ | (simp; done) | (simp; omega)) _) | (with_reducible refine Ext.stepN ?_ _) | (with_reducible refine Ext.stepD ?_) | (with_reducible refine Ext.stepA ?_ _))))) (BA.out.on (by (repeat (first | assumption | exact Ext.refl _ | (with_reducible refine Ext.stepS ?_ (by first | exact Nat.le_refl _ | (simp; done) | (simp; omega)) _) | (with_reducible refine Ext.stepN ?_ _) | (with_reducible refine Ext.stepD ?_) | (with_reducible refine Ext.stepA ?_ _))))) (BB.out.on (by (repeat (first | assumption | exact Ext.refl _ | (with_reducible refine Ext.stepS ?_ (by first | exact Nat.le_refl _ | (simp; done) | (simp; omega)) _) | (with_reducible refine Ext.stepN ?_ _) | (with_reducible refine Ext.stepD ?_) | (with_reducible refine Ext.stepA ?_ _)))))).mono ?_; rintro e u1 ⟨rfl, q1, rfl⟩)
    refine bodyPost_ret (v := .tuple #[.agg #[.int .i64 0, .int .i64 0, .int .i64 0, .slice none 0 0], .bool false]) (by simp [results, Try.results42, go_sem]) rfl ⟨none, 0, rfl, Own.nil _ _ _ _, ?_⟩
    (repeat (first | assumption | exact Ext.refl _ | (with_reducible refine Ext.stepS ?_ (by first | exact Nat.le_refl _ | (simp; done) | (simp; omega)) _) | (with_reducible refine Ext.stepN ?_ _) | (with_reducible refine Ext.stepD ?_) | (with_reducible refine Ext.stepA ?_ _)))
  have Q1 := Lib.hid h1
  obtain ⟨m, d, rfl, rfl, rfl, rfl, rfl, oka, okb⟩ := merge_ok h1
  rw [mergeR_y h1] at hv
  have HV := Lib.hid hv
  have hxl : 0 < xs.length := by rw [oka.len]; exact Nat.mul_pos (by have := oka.m2; omega) oka.d1
  have hx4 := oka.le
  have hyl : ys.length = xs.length := by rw [okb.len, oka.len]
  have UA := Lib.hid oka.many
  have UB := Lib.hid okb.many
  have HYL := Lib.hid hyl
  clear hv h1 oka okb hyl
  rw [HYL.out] at BA BB BZ H2 hm2 ⊢
  go_enter Try.func42, Try.ntmps42
  go_wp2_with fail
  refine (c_spec_l03Like w.heap.size (w.heap.size + 1) m d S' a xs.length cap xs m d S' b xs.length cap2 ys _ Q1.out hm (H.out.on (by (repeat (first | assumption | exact Ext.refl _ | (with_reducible refine Ext.stepS ?_ (by first | exact Nat.le_refl _ | (simp; done) | (simp; omega)) _) | (with_reducible refine Ext.stepN ?_ _) | (with_reducible refine Ext.stepD ?_) | (with_reducible refine Ext.stepA ?_ _))))) hm2 (H2.out.on (by (repeat (first | assumption | exact Ext.refl _ | (with_reducible refine Ext.stepS ?_ (by first | exact Nat.le_refl _ | (simp; done) | (simp; omega)) _) | (with_reducible refine Ext.stepN ?_ _) | (with_reducible refine Ext.stepD ?_) | (with_reducible refine Ext.stepA ?_ _))))) (BA.out.on (by (repeat (first | assumption | exact Ext.refl _ | (with_reducible refine Ext.stepS ?_ (by first | exact Nat.le_refl _ | (simp; done) | (simp; omega)) _) | (with_reducible refine Ext.stepN ?_ _) | (with_reducible refine Ext.stepD ?_) | (with_reducible refine Ext.stepA ?_ _))))) (BB.out.on (by (repeat (first | assumption | exact Ext.refl _ | (with_reducible refine Ext.stepS ?_ (by first | exact Nat.le_refl _ | (simp; done) | (simp; omega)) _) | (with_reducible refine Ext.stepN ?_ _) | (with_reducible refine Ext.stepD ?_) | (with_reducible refine Ext.stepA ?_ _)))))).mono ?_; rintro e u1 ⟨rfl, q1, rfl⟩
  go_wp2_with fail
  refine (c_spec_l03Own w.heap.size m d S' a xs.length cap xs _ hxl (by omega) (BA.out.on (by (repeat (first | assumption | exact Ext.refl _ | (with_reducible refine Ext.stepS ?_ (by first | exact Nat.le_refl _ | (simp; done) | (simp; omega)) _) | (with_reducible refine Ext.stepN ?_ _) | (with_reducible refine Ext.stepD ?_) | (with_reducible refine Ext.stepA ?_ _))))) (H.out.on (by (repeat (first | assumption | exact Ext.refl _ | (with_reducible refine Ext.stepS ?_ (by first | exact Nat.le_refl _ | (simp; done) | (simp; omega)) _) | (with_reducible refine Ext.stepN ?_ _) | (with_reducible refine Ext.stepD ?_) | (with_reducible refine Ext.stepA ?_ _)))))).mono ?_; rintro e wa ⟨g, c2, f2, rfl, hg, hc2, hrow, x'⟩
  have X1 := Lib.hid (show Ext w wa from Ext.trans (by (repeat (first | assumption | exact Ext.refl _ | (with_reducible refine Ext.stepS ?_ (by first | exact Nat.le_refl _ | (simp; done) | (simp; omega)) _) | (with_reducible refine Ext.stepN ?_ _) | (with_reducible refine Ext.stepD ?_) | (with_reducible refine Ext.stepA ?_ _)))) x')
  have BZ1 := Lib.hid (show Box wa (w.heap.size + 2) 54 _ from Box.on BZ.out (Ext.trans (by (repeat (first | assumption | exact Ext.refl _ | (with_reducible refine Ext.stepS ?_ (by first | exact Nat.le_refl _ | (simp; done) | (simp; omega)) _) | (with_reducible refine Ext.stepN ?_ _) | (with_reducible refine Ext.stepD ?_) | (with_reducible refine Ext.stepA ?_ _)))) x'))
  have BB1 := Lib.hid (show Box wa (w.heap.size + 1) 54 _ from Box.on BB.out (Ext.trans (by (repeat (first | assumption | exact Ext.refl _ | (with_reducible refine Ext.stepS ?_ (by first | exact Nat.le_refl _ | (simp; done) | (simp; omega)) _) | (with_reducible refine Ext.stepN ?_ _) | (with_reducible refine Ext.stepD ?_) | (with_reducible refine Ext.stepA ?_ _)))) x'))
  have HG := Lib.hid (show w.heap.size + 3 ≤ g from Nat.le_trans (by first | omega | (simp; done) | (simp; omega)) hg)
  have HGL := Lib.hid hrow.lt
  obtain ⟨w1, hw1⟩ : ∃ w1, wa.alloc (.cells #[.int .i64 m, .int .i64 d, .int .i64 S', .slice (some ⟨g, 0, none⟩) xs.length c2] 54) = w1 := ⟨_, rfl⟩
  have HRW := Lib.hid (show w1.rowIs g 2 c2 (rowT xs f2) by rw [← hw1]; exact rowIs_on hrow (Ext.alloc wa _))
  have HNB := Lib.hid (show Box w1 wa.heap.size 54 #[.int .i64 m, .int .i64 d, .int .i64 S', .slice (some ⟨g, 0, none⟩) xs.length c2] by rw [← hw1]; exact Box.alloc wa _ _)
  have BZ2 := Lib.hid (show Box w1 (w.heap.size + 2) 54 _ by rw [← hw1]; exact BZ1.out.past _)
  have BB2 := Lib.hid (show Box w1 (w.heap.size + 1) 54 _ by rw [← hw1]; exact BB1.out.past _)
  have HEX := Lib.hid (show Ext w w1 by rw [← hw1]; exact X1.out.stepA _)
  have HSZ := Lib.hid (show w.heap.size + 3 ≤ wa.heap.size by have := BZ1.out.lt; omega)
  have HNG := Lib.hid (show wa.heap.size ≠ g by have := HGL.out; omega)
  have H3 := H2
  clear hrow hg x'
  obtain ⟨n0, n1, n2, n3⟩ := HNB.out.four
  go_wp2_with fail
  try rw [hw1]
  clear hw1 n0 n1 n2 n3
  go_loopw [15] (fun i wr => ∃ k : Nat, k ≤ xs.length ∧ i = .int .i64 k ∧ wr.rowIs g 2 c2 (rowT (addUp xs ys k) f2) ∧ Touch g (g + 1) w1 wr) (fun i _ => xs.length - (intOf i).toNat)
  case atStart => exact ⟨0, Nat.zero_le _, rfl, HRW.out, Touch.refl _ _ _⟩
  case round =>
    obtain ⟨k, hk, rfl, hrow, ht⟩ := hrel
    have HRR := Lib.hid hrow
    have HT := Lib.hid ht
    have HBB := Lib.hid (HNB.out.beside ht (by have := HNG.out; omega))
    have HX := Lib.hid (show Ext w wr from Touch.ext HEX.out ht (by have := HG.out; omega))
    clear hrow ht
    by_cases hlt : k < xs.length
    · obtain ⟨pb, po, rfl, hpc⟩ : ∃ b' off, b = some ⟨b', off, none⟩ ∧ wr.cell? ⟨b', off + k, none⟩ = some (.int .i64 (ys[k]?.getD 0)) := by
        obtain ⟨_, hq⟩ := (H3.out.on HX.out).int
        rcases hq with h0 | ⟨b', off', rfl, hq⟩
        · omega
        · exact ⟨b', off', rfl, hq k hlt⟩
      have hgc := HRR.out.cell (i := k) (by omega)
      rw [rowT_at (by rw [addUp_length]; exact hlt), addUp_get xs ys k k (Nat.le_refl _)] at hgc
      have hgf := HRR.out.frozen k
      have hxb := manyB_at UA.out hlt
      have hyb := manyB_at UB.out (i := k) (by rw [HYL.out]; exact hlt)
      obtain ⟨x, hx⟩ : ∃ x, xs[k]?.getD 0 = x := ⟨_, rfl⟩
      obtain ⟨y, hy⟩ : ∃ y, ys[k]?.getD 0 = y := ⟨_, rfl⟩
      rw [hx] at hxb hgc
      rw [hy] at hyb hpc
      have HS := Lib.hid (show (wr.setCell ⟨g, k, none⟩ (.int .i64 (x + y))).rowIs g 2 c2 (rowT (addUp xs ys (k + 1)) f2) from by
        have := rowT_set HRR.out (k := k) (by rw [addUp_length]; exact hlt) (x + y)
        show World.rowIs _ _ _ _ (rowT ((addUp xs ys k).set k (xs[k]?.getD 0 + ys[k]?.getD 0)) f2)
        rw [hx, hy]
        exact this)
      obtain ⟨n0, n1, n2, n3⟩ := HBB.out.four
      obtain ⟨b0, b1, b2, b3⟩ := (BB2.out.beside HT.out (by have := HG.out; omega)).four
      obtain ⟨x0, x1⟩ := hxb
      obtain ⟨y0, y1⟩ := hyb
      have hkl : (k : Int) < (xs.length : Int) := by omega
      have hk0 : (0 : Int) ≤ (k : Int) := by omega
      clear hx hy
      go_wp2_with fail
      go_region
      all_goals
        go_wp2
        go_roundw
        case rel => exact ⟨k + 1, by omega, by go_num, HS.out, (HT.out.of_drew _).one _ _⟩
        case measure => simp [intOf]; omega
    · obtain rfl : k = xs.length := by omega
      obtain ⟨NZ, hNZ⟩ : ∃ z, addUp xs ys xs.length = z := ⟨_, rfl⟩
      have hNL : NZ.length = xs.length := by rw [← hNZ, addUp_length]
      have HV3 := Lib.hid (show sumCells m d S' NZ = (V, v) by rw [← hNZ]; exact HV.out)
      have HRN := Lib.hid (show wr.rowIs g 2 c2 (rowT NZ f2) by rw [← hNZ]; exact HRR.out)
      have HON := Lib.hid (own_rowT (lo := w.heap.size + 3) (by omega) HG.out HRN.out)
      have HZN := Lib.hid (BZ2.out.beside HT.out (by have := HG.out; omega))
      have HEW := Lib.hid (HX.out)
      obtain ⟨n0, n1, n2, n3⟩ := HBB.out.four
      have HNL := Lib.hid hNL
      rw [hNL] at HON
      clear hNZ hNL
      cases hcb : cellsB m d S' NZ
      · have HCB := Lib.hid hcb
        have hv := HV3.out
        rw [sumCells_no hcb] at hv
        simp only [Prod.mk.injEq] at hv
        obtain ⟨rfl, rfl⟩ := hv
        clear hcb
        go_wp2_with fail
        refine (c_spec_l03Give_no m d S' _ _ _ NZ _ HCB.out (by unfold maxLen; omega) HON.out.reads).mono ?_; rintro e wz ⟨rfl, xz⟩
        have EZ := HEW.out.trans xz
        obtain ⟨z0, z1, z2, z3⟩ := (HZN.out.on xz).four
        obtain ⟨y0, y1, y2, y3⟩ := (HZN.out.on xz).free
        clear n0 n1 n2 n3 xz
        go_wp2
        refine bodyPost_ret (v := .tuple #[.agg #[.int .i64 0, .int .i64 0, .int .i64 0, .slice none 0 0], .bool false]) (by simp [results, Try.results42, go_sem, z0, z1, z2, z3]) rfl ⟨none, 0, rfl, Own.nil _ _ _ _, ?_⟩
        (repeat (first | assumption | exact Ext.refl _ | (with_reducible refine Ext.stepS ?_ (by first | exact Nat.le_refl _ | (simp; done) | (simp; omega)) _) | (with_reducible refine Ext.stepN ?_ _) | (with_reducible refine Ext.stepD ?_) | (with_reducible refine Ext.stepA ?_ _)))
      · have HCB := Lib.hid hcb
        have hv := HV3.out
        rw [sumCells_y hcb] at hv
        simp only [Prod.mk.injEq] at hv
        obtain ⟨rfl, rfl⟩ := hv
        clear hcb
        go_wp2_with fail
        refine (c_spec_l03Give m d S' _ _ _ NZ _ HCB.out (by unfold maxLen; omega) HON.out.reads).mono ?_; rintro e wz ⟨rfl, xz⟩
        have EZ := HEW.out.trans xz
        have HOZ := Lib.hid (HON.out.on xz)
        have HSW := Lib.hid xz.size
        obtain ⟨z0, z1, z2, z3⟩ := (HZN.out.on xz).four
        obtain ⟨y0, y1, y2, y3⟩ := (HZN.out.on xz).free
        have hszr := HX.out.size
        clear n0 n1 n2 n3 xz
        go_wp2
        refine bodyPost_ret (v := .tuple #[.agg #[.int .i64 m, .int .i64 d, .int .i64 S', .slice (some ⟨g, 0, none⟩) xs.length c2], .bool true]) (by simp [results, Try.results42, go_sem, z0, z1, z2, z3]) rfl ⟨some ⟨g, 0, none⟩, c2, by rw [HNL.out], ?_, ?_⟩
        · rw [HNL.out]
          refine own_touch HOZ.out (lo' := w.heap.size + 2) (hi' := w.heap.size + 3) ?_ (by have := HSZ.out; omega) (by have := HSZ.out; have := HSW.out; omega) HSW.out
          (repeat (first | assumption | exact Touch.refl _ _ _ | (with_reducible refine Touch.stepS ?_ (by first | exact Nat.le_refl _ | (simp; done) | (simp; omega)) (by first | (simp; done) | (simp; omega)) _) | (with_reducible refine Touch.stepN ?_ _) | (with_reducible refine Touch.stepA ?_ _)))
        · (repeat (first | assumption | exact Ext.refl _ | (with_reducible refine Ext.stepS ?_ (by first | exact Nat.le_refl _ | (simp; done) | (simp; omega)) _) | (with_reducible refine Ext.stepN ?_ _) | (with_reducible refine Ext.stepD ?_) | (with_reducible refine Ext.stepA ?_ _)))
end Go.Proofs.Ytfolflkbpdbkcac
