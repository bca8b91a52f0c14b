/- MeetSieves: the other side. -/
import Derived.Test.YtfolflkbpdbkcaaPal
namespace Go.Proofs.Ytfolflkbpdbkcaa
open Go.ChangeShapes Go.WideShapes Go.ChangeAt Go.RowKit
set_option linter.unusedVariables false
set_option maxRecDepth 100000 in
set_option maxHeartbeats 4000000 in
theorem c_spec_MeetSieves (R S : Int) (a : Option Addr) (n cap : Nat) (xs : List Bool) (R' S' : Int) (b : Option Addr) (n2 cap2 : Nat) (ys : List Bool) (w : World) {V : SV} {v : Bool} (hv : pairR (fun x y => x && y) R S xs R' S' ys = (V, v)) (hm : n ≤ maxLen) (h : Reads w a n (bools xs)) (hm2 : n2 ≤ maxLen) (h2 : Reads w b n2 (bools ys)) :
    Calls Try.prog 37 #[.agg #[.int .i64 R, .int .i64 S, .slice a n cap], .agg #[.int .i64 R', .int .i64 S', .slice b n2 cap2]] w (RetKVB 4 V v w) := by
  have hn := h.bool.1
  subst hn
  have hn2 := h2.bool.1
  subst hn2
  have H := Lib.hid h
  have H2 := Lib.hid h2
  have BA := Lib.hid (((Box.alloc w #[.int .i64 R, .int .i64 S, .slice a xs.length cap] 27).past (.cells #[.int .i64 R', .int .i64 S', .slice b ys.length cap2] 27)).past (.cells #[.int .i64 0, .int .i64 0, .slice none 0 0] 27))
  have BB := Lib.hid ((Box.alloc_at (w.alloc (.cells #[.int .i64 R, .int .i64 S, .slice a xs.length cap] 27)) #[.int .i64 R', .int .i64 S', .slice b ys.length cap2] 27 (b := w.heap.size + 1) (by simp)).past (.cells #[.int .i64 0, .int .i64 0, .slice none 0 0] 27))
  have BZ := Lib.hid (Box.alloc_at ((w.alloc (.cells #[.int .i64 R, .int .i64 S, .slice a xs.length cap] 27)).alloc (.cells #[.int .i64 R', .int .i64 S', .slice b ys.length cap2] 27)) #[.int .i64 0, .int .i64 0, .slice none 0 0] 27 (b := w.heap.size + 2) (by simp))
  clear h h2
  cases h1 : pairB R S xs R' S' ys
  · rw [pairR_no h1] at hv
    simp only [Prod.mk.injEq] at hv
    obtain ⟨rfl, rfl⟩ := hv
    have Q1 := Lib.hid h1
    clear h1
    go_enter Try.func37, Try.ntmps37
    go_wp2_with (go_at_call 68; refine (c_spec_l04Alike w.heap.size (w.heap.size + 1) R S a xs.length cap xs R' S' b ys.length cap2 ys _ Q1.out hm rfl hm2 rfl (BA.out.on (by (repeat (first | assumption | exact Ext.refl _ | (with_reducible refine Ext.stepS ?_ (by first | exact Nat.le_refl _ | (simp; done) | (simp; omega)) _) | (with_reducible refine Ext.stepN ?_ _) | (with_reducible refine Ext.stepD ?_) | (with_reducible refine Ext.stepA ?_ _))))) (BB.out.on (by (repeat (first | assumption | exact Ext.refl _ | (with_reducible refine Ext.stepS ?_ (by first | exact Nat.le_refl _ | (simp; done) | (simp; omega)) _) | (with_reducible refine Ext.stepN ?_ _) | (with_reducible refine Ext.stepD ?_) | (with_reducible refine Ext.stepA ?_ _)))))).mono ?_; rintro e u1 ⟨rfl, q1, rfl⟩)
    refine bodyPost_ret (v := .tuple #[.agg #[.int .i64 0, .int .i64 0, .slice none 0 0], .bool false]) (by simp [results, Try.results37, go_sem]) rfl ⟨none, 0, rfl, Own.nil _ _ _ _, ?_⟩
    (repeat (first | assumption | exact Ext.refl _ | (with_reducible refine Ext.stepS ?_ (by first | exact Nat.le_refl _ | (simp; done) | (simp; omega)) _) | (with_reducible refine Ext.stepN ?_ _) | (with_reducible refine Ext.stepD ?_) | (with_reducible refine Ext.stepA ?_ _)))
  have Q1 := Lib.hid h1
  have h3 := h1
  unfold pairB at h3
  rw [Bool.and_eq_true] at h3
  obtain ⟨h4, h5⟩ := h3
  rw [pairR_y h4 h5] at hv
  simp only [Prod.mk.injEq] at hv
  obtain ⟨hv, rfl⟩ := hv
  have HV := Lib.hid hv
  have HGE := Lib.hid (gridEq_is h5)
  obtain ⟨r, m, hr1, hm1, ok⟩ := grid_ok h4
  have hn1 : 1 ≤ xs.length := by have := ok.n1; omega
  have hn5 : xs.length ≤ 512 := by have := ok.n512; omega
  clear hv h1 h4 h5 ok hr1 hm1
  go_enter Try.func37, Try.ntmps37
  go_wp2_with fail
  refine (c_spec_l04Alike w.heap.size (w.heap.size + 1) R S a xs.length cap xs R' S' b ys.length cap2 ys _ Q1.out hm rfl hm2 rfl (BA.out.on (by (repeat (first | assumption | exact Ext.refl _ | (with_reducible refine Ext.stepS ?_ (by first | exact Nat.le_refl _ | (simp; done) | (simp; omega)) _) | (with_reducible refine Ext.stepN ?_ _) | (with_reducible refine Ext.stepD ?_) | (with_reducible refine Ext.stepA ?_ _))))) (BB.out.on (by (repeat (first | assumption | exact Ext.refl _ | (with_reducible refine Ext.stepS ?_ (by first | exact Nat.le_refl _ | (simp; done) | (simp; omega)) _) | (with_reducible refine Ext.stepN ?_ _) | (with_reducible refine Ext.stepD ?_) | (with_reducible refine Ext.stepA ?_ _)))))).mono ?_; rintro e u1 ⟨rfl, q1, rfl⟩
  go_wp2_with fail
  refine (c_spec_l04Own w.heap.size R S a xs.length cap xs _ (by omega) (by omega) (BA.out.on (by (repeat (first | assumption | exact Ext.refl _ | (with_reducible refine Ext.stepS ?_ (by first | exact Nat.le_refl _ | (simp; done) | (simp; omega)) _) | (with_reducible refine Ext.stepN ?_ _) | (with_reducible refine Ext.stepD ?_) | (with_reducible refine Ext.stepA ?_ _))))) (H.out.on (by (repeat (first | assumption | exact Ext.refl _ | (with_reducible refine Ext.stepS ?_ (by first | exact Nat.le_refl _ | (simp; done) | (simp; omega)) _) | (with_reducible refine Ext.stepN ?_ _) | (with_reducible refine Ext.stepD ?_) | (with_reducible refine Ext.stepA ?_ _)))))).mono ?_; rintro e wa ⟨g, c2, f2, rfl, hg, hc2, hrow, x'⟩
  have X1 := Lib.hid (show Ext w wa from Ext.trans (by (repeat (first | assumption | exact Ext.refl _ | (with_reducible refine Ext.stepS ?_ (by first | exact Nat.le_refl _ | (simp; done) | (simp; omega)) _) | (with_reducible refine Ext.stepN ?_ _) | (with_reducible refine Ext.stepD ?_) | (with_reducible refine Ext.stepA ?_ _)))) x')
  have BZ1 := Lib.hid (show Box wa (w.heap.size + 2) 27 _ from Box.on BZ.out (Ext.trans (by (repeat (first | assumption | exact Ext.refl _ | (with_reducible refine Ext.stepS ?_ (by first | exact Nat.le_refl _ | (simp; done) | (simp; omega)) _) | (with_reducible refine Ext.stepN ?_ _) | (with_reducible refine Ext.stepD ?_) | (with_reducible refine Ext.stepA ?_ _)))) x'))
  have BA1 := Lib.hid (show Box wa w.heap.size 27 _ from Box.on BA.out (Ext.trans (by (repeat (first | assumption | exact Ext.refl _ | (with_reducible refine Ext.stepS ?_ (by first | exact Nat.le_refl _ | (simp; done) | (simp; omega)) _) | (with_reducible refine Ext.stepN ?_ _) | (with_reducible refine Ext.stepD ?_) | (with_reducible refine Ext.stepA ?_ _)))) x'))
  have BB1 := Lib.hid (show Box wa (w.heap.size + 1) 27 _ from Box.on BB.out (Ext.trans (by (repeat (first | assumption | exact Ext.refl _ | (with_reducible refine Ext.stepS ?_ (by first | exact Nat.le_refl _ | (simp; done) | (simp; omega)) _) | (with_reducible refine Ext.stepN ?_ _) | (with_reducible refine Ext.stepD ?_) | (with_reducible refine Ext.stepA ?_ _)))) x'))
  have HG := Lib.hid (show w.heap.size + 3 ≤ g from Nat.le_trans (by first | omega | (simp; done) | (simp; omega)) hg)
  have HGL := Lib.hid hrow.lt
  obtain ⟨w1, hw1⟩ : ∃ w1, wa.alloc (.cells #[.int .i64 R, .int .i64 S, .slice (some ⟨g, 0, none⟩) xs.length c2] 27) = w1 := ⟨_, rfl⟩
  have HRW := Lib.hid (show w1.rowIs g 4 c2 (rowB xs f2) by rw [← hw1]; exact rowIs_on hrow (Ext.alloc wa _))
  have BO := Lib.hid (show Box w1 wa.heap.size 27 #[.int .i64 R, .int .i64 S, .slice (some ⟨g, 0, none⟩) xs.length c2] by rw [← hw1]; exact Box.alloc wa _ _)
  have BZ2 := Lib.hid (show Box w1 (w.heap.size + 2) 27 _ by rw [← hw1]; exact BZ1.out.past _)
  have BA2 := Lib.hid (show Box w1 w.heap.size 27 _ by rw [← hw1]; exact BA1.out.past _)
  have BB2 := Lib.hid (show Box w1 (w.heap.size + 1) 27 _ by rw [← hw1]; exact BB1.out.past _)
  have X2 := Lib.hid (show Ext w w1 by rw [← hw1]; exact X1.out.stepA _)
  have HSA := Lib.hid (show w.heap.size + 3 ≤ wa.heap.size by have := BZ1.out.lt; omega)
  clear hrow hg x'
  go_wp2_with fail
  try rw [hw1]
  clear hw1
  go_loopw [7] (fun i wr => ∃ k : Nat, k ≤ xs.length ∧ i = .int .i64 k ∧ wr.rowIs g 4 c2 (rowB (pairG (fun x y => x && y) xs ys xs k) f2) ∧ Touch g (g + 1) w1 wr) (fun i _ => xs.length - (intOf i).toNat)
  case atStart => exact ⟨0, Nat.zero_le _, rfl, HRW.out, Touch.refl _ _ _⟩
  case round =>
    obtain ⟨k, hk, rfl, hrow, ht⟩ := hrel
    have HRR := Lib.hid hrow
    have HT := Lib.hid ht
    have HBB := Lib.hid (BO.out.beside ht (by have := HGL.out; omega))
    have HX := Lib.hid (show Ext w wr from Touch.ext X2.out ht (by have := HG.out; omega))
    have BA3 := Lib.hid (BA2.out.beside ht (by have := HG.out; omega))
    have BB3 := Lib.hid (BB2.out.beside ht (by have := HG.out; omega))
    have BZ3 := Lib.hid (BZ2.out.beside ht (by have := HG.out; omega))
    clear hrow ht
    obtain ⟨a0, a1, a2⟩ := BA3.out.three
    obtain ⟨b0, b1, b2⟩ := BB3.out.three
    by_cases hlt : k < xs.length
    · obtain ⟨pb, po, rfl, hpc⟩ : ∃ b' off, b = some ⟨b', off, none⟩ ∧ wr.cell? ⟨b', off + k, none⟩ = some (.bool (ys[k]?.getD false)) := by
        obtain ⟨_, hq⟩ := (H2.out.on HX.out).bool
        rcases hq with h0 | ⟨b', off', rfl, hq⟩
        · have := HGE.out.2.2; omega
        · exact ⟨b', off', rfl, hq k (by have := HGE.out.2.2; omega)⟩
      obtain ⟨ab, ao, rfl, hac⟩ : ∃ b' off, a = some ⟨b', off, none⟩ ∧ wr.cell? ⟨b', off + k, none⟩ = some (.bool (xs[k]?.getD false)) := by
        obtain ⟨_, hq⟩ := (H.out.on HX.out).bool
        rcases hq with h0 | ⟨b', off', rfl, hq⟩
        · omega
        · exact ⟨b', off', rfl, hq k hlt⟩
      have hlen : (pairG (fun x y => x && y) xs ys xs k).length = xs.length := by rw [pairG_length]
      have hgc := HRR.out.cell (i := k) (by omega)
      rw [rowB_at (by rw [hlen]; exact hlt)] at hgc
      have hgf := HRR.out.frozen k
      obtain ⟨x, hx⟩ : ∃ x, xs[k]?.getD false = x := ⟨_, rfl⟩
      obtain ⟨y, hy⟩ : ∃ y, ys[k]?.getD false = y := ⟨_, rfl⟩
      have HS := Lib.hid (show (wr.setCell ⟨g, k, none⟩ (.bool (x && y))).rowIs g 4 c2 (rowB (pairG (fun x y => x && y) xs ys xs (k + 1)) f2) from by
        have := rowB_set HRR.out (k := k) (by rw [hlen]; exact hlt) (x && y)
        show World.rowIs _ _ _ _ (rowB ((pairG (fun x y => x && y) xs ys xs k).set k (xs[k]?.getD false && ys[k]?.getD false)) _)
        rw [hx, hy]
        exact this)
      obtain ⟨n0, n1, n2⟩ := HBB.out.three
      rw [hx] at hac
      rw [hy] at hpc
      have hkl : (k : Int) < (xs.length : Int) := by omega
      have hkl2 : (k : Int) < (ys.length : Int) := by have := HGE.out.2.2; omega
      have hk0 : (0 : Int) ≤ (k : Int) := by omega
      clear hx hy hlen
      cases x <;> cases y
      all_goals
        go_wp2_with fail
        first | (go_region) | fail
      all_goals
        go_wp2
        go_roundw
        case rel => exact ⟨k + 1, by omega, by go_num, HS.out, (HT.out.of_drew _).one _ _⟩
        case measure => simp [intOf]; omega
    · obtain rfl : k = xs.length := by omega
      have hy2 : ¬ (xs.length : Int) < (ys.length : Int) := by have := HGE.out.2.2; omega
      obtain ⟨NZ, hNZ⟩ : ∃ z, pairG (fun x y => x && y) xs ys xs xs.length = z := ⟨_, rfl⟩
      have hNL : NZ.length = xs.length := by rw [← hNZ, pairG_length]
      have HVV := Lib.hid (show V = ⟨R, S, NZ⟩ by rw [← hNZ]; exact HV.out.symm)
      have HRN := Lib.hid (show wr.rowIs g 4 c2 (rowB NZ f2) by rw [← hNZ]; exact HRR.out)
      have HON := Lib.hid (own_rowB (lo := w.heap.size + 3) (by omega) HG.out HRN.out)
      have HZN := BZ3
      have HEW := HX
      have HNL := Lib.hid hNL
      obtain ⟨n0, n1, n2⟩ := HBB.out.three
      obtain ⟨z0, z1, z2⟩ := HZN.out.three
      obtain ⟨y0, y1, y2, y3⟩ := HZN.out.free
      have hnbz : w.heap.size + 2 ≠ wa.heap.size := by have := HSA.out; omega
      have hnbz' : wa.heap.size ≠ w.heap.size + 2 := fun h => hnbz h.symm
      clear hNZ hNL
      go_wp2
      refine bodyPost_ret (v := .tuple #[.agg #[.int .i64 R, .int .i64 S, .slice (some ⟨g, 0, none⟩) xs.length c2], .bool true]) (by simp [results, Try.results37, go_sem, z0, z1, z2]) rfl ⟨some ⟨g, 0, none⟩, c2, by rw [HVV.out, HNL.out], ?_, ?_⟩
      · rw [HVV.out]
        refine own_touch HON.out (lo' := w.heap.size + 2) (hi' := w.heap.size + 3) ?_ (by omega) (by have := HX.out.size; have := X2.out.size; have := HSA.out; have := BZ3.out.lt; omega) (Nat.le_refl _)
        (repeat (first | assumption | exact Touch.refl _ _ _ | (with_reducible refine Touch.stepS ?_ (by first | exact Nat.le_refl _ | (simp; done) | (simp; omega)) (by first | (simp; done) | (simp; omega)) _) | (with_reducible refine Touch.stepN ?_ _) | (with_reducible refine Touch.stepA ?_ _)))
      · have HEW' := HEW.out
        (repeat (first | assumption | exact Ext.refl _ | (with_reducible refine Ext.stepS ?_ (by first | exact Nat.le_refl _ | (simp; done) | (simp; omega)) _) | (with_reducible refine Ext.stepN ?_ _) | (with_reducible refine Ext.stepD ?_) | (with_reducible refine Ext.stepA ?_ _)))
end Go.Proofs.Ytfolflkbpdbkcaa
