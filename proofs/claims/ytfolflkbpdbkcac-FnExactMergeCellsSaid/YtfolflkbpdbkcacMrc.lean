/- MergeCells: plain facts; the program's side. -/
import Derived.Test.YtfolflkbpdbkcacCmh
import Derived.Test.YtfolflkbpdbkcacOwc
import Derived.Deep.DeepCutAuto
import Derived.Deep.LoopGhost
import Derived.Deep.RegionHeld3
namespace Go.Proofs.Ytfolflkbpdbkcac
open Go.ChangeShapes Go.WideShapes Go.ChangeAt Go.RowKit
set_option linter.unusedVariables false
/-- sums of the first k of both -/
def addUp (xs ys : List Int) : Nat → List Int
  | 0 => xs
  | k + 1 => (addUp xs ys k).set k (xs[k]?.getD 0 + ys[k]?.getD 0)
theorem addUp_length (xs ys : List Int) : ∀ k, (addUp xs ys k).length = xs.length
  | 0 => rfl
  | k + 1 => by
    show ((addUp xs ys k).set k _).length = _
    rw [List.length_set, addUp_length xs ys k]
theorem addUp_get (xs ys : List Int) : ∀ (k j : Nat), k ≤ j → (addUp xs ys k)[j]?.getD 0 = xs[j]?.getD 0
  | 0, _, _ => rfl
  | k + 1, j, h => by
    show ((addUp xs ys k).set k _)[j]?.getD 0 = _
    rw [List.getElem?_set, if_neg (by omega), addUp_get xs ys k j (by omega)]
def sumCells (W D S : Int) (zs : List Int) : CV × Bool := if cellsB W D S zs then (⟨W, D, S, zs⟩, true) else (CV.no, false)
theorem sumCells_no {W D S : Int} {zs : List Int} (h : cellsB W D S zs = false) : sumCells W D S zs = (CV.no, false) := by unfold sumCells; rw [h]; rfl
theorem sumCells_y {W D S : Int} {zs : List Int} (h : cellsB W D S zs = true) : sumCells W D S zs = (⟨W, D, S, zs⟩, true) := by unfold sumCells; rw [h]; rfl
def mergeR (W D S : Int) (zs : List Int) (W' D' S' : Int) (ys : List Int) : CV × Bool := if mergeB W D S zs W' D' S' ys then sumCells W D S (addUp zs ys zs.length) else (CV.no, false)
theorem mergeR_no {W D S W' D' S' : Int} {zs ys : List Int} (h : mergeB W D S zs W' D' S' ys = false) : mergeR W D S zs W' D' S' ys = (CV.no, false) := by unfold mergeR; rw [h]; rfl
theorem mergeR_y {W D S W' D' S' : Int} {zs ys : List Int} (h : mergeB W D S zs W' D' S' ys = true) : mergeR W D S zs W' D' S' ys = sumCells W D S (addUp zs ys zs.length) := by unfold mergeR; rw [h, if_pos rfl]
theorem merge_ok {W D S W' D' S' : Int} {zs ys : List Int} (h : mergeB W D S zs W' D' S' ys = true) : ∃ m d : Nat, W = m ∧ D = d ∧ W' = m ∧ D' = d ∧ S' = S ∧ CellsOk m d S zs ∧ CellsOk m d S ys := by
  unfold mergeB at h
  simp only [Bool.and_eq_true] at h
  obtain ⟨rfl, rfl, rfl⟩ := shapeB_is h.2
  obtain ⟨m, d, rfl, rfl, h1⟩ := cells_ok h.1.1
  obtain ⟨m', d', h2, h3, h4⟩ := cells_ok h.1.2
  obtain rfl : m = m' := by omega
  obtain rfl : d = d' := by omega
  exact ⟨m, d, rfl, rfl, rfl, rfl, rfl, h1, h4⟩
theorem mergeR_le {W D S W' D' S' : Int} {zs ys : List Int} {rW rD rS : Int} {rz : List Int} {rb : Bool} (h : mergeR W D S zs W' D' S' ys = (⟨rW, rD, rS, rz⟩, rb)) : rz.length ≤ 1048576 := by
  unfold mergeR sumCells at h
  split at h
  · rename_i hc
    obtain ⟨m, d, rfl, rfl, _, _, _, h1, _⟩ := merge_ok hc
    have := h1.le
    split at h
    · simp only [Prod.mk.injEq, CV.mk.injEq] at h
      rw [← h.1.2.2.2, addUp_length]; omega
    · simp only [Prod.mk.injEq, CV.no, CV.mk.injEq] at h
      rw [← h.1.2.2.2]; exact Nat.zero_le _
  · simp only [Prod.mk.injEq, CV.no, CV.mk.injEq] at h
    rw [← h.1.2.2.2]; exact Nat.zero_le _
set_option maxRecDepth 100000 in
set_option maxHeartbeats 4000000 in
theorem c_impl_MergeCells (W D S : Int) (a : Option Addr) (n cap : Nat) (xs : List Int) (W' D' S' : Int) (b : Option Addr) (n2 cap2 : Nat) (ys : List Int) (w : World) {V : CV} {v : Bool} (hv : mergeR W D S xs W' D' S' ys = (V, v)) (hm : n ≤ maxLen) (h : Reads w a n (ints xs)) (hm2 : n2 ≤ maxLen) (h2 : Reads w b n2 (ints ys)) :
    Calls Try.prog 44 #[.agg #[.int .i64 W, .int .i64 D, .int .i64 S, .slice a n cap], .agg #[.int .i64 W', .int .i64 D', .int .i64 S', .slice b n2 cap2]] w (RetCB 2 V v w) := by
  have hn := h.int.1
  subst hn
  have hn2 := h2.int.1
  subst hn2
  have H := Lib.hid h
  have H2 := Lib.hid h2
  have BA := Lib.hid (((Box.alloc w #[.int .i64 W, .int .i64 D, .int .i64 S, .slice a xs.length cap] 54).past (.cells #[.int .i64 W', .int .i64 D', .int .i64 S', .slice b ys.length cap2] 54)).past (.cells #[.int .i64 0, .int .i64 0, .int .i64 0, .slice none 0 0] 54))
  have BB := Lib.hid ((Box.alloc_at (w.alloc (.cells #[.int .i64 W, .int .i64 D, .int .i64 S, .slice a xs.length cap] 54)) #[.int .i64 W', .int .i64 D', .int .i64 S', .slice b ys.length cap2] 54 (b := w.heap.size + 1) (by simp)).past (.cells #[.int .i64 0, .int .i64 0, .int .i64 0, .slice none 0 0] 54))
  have BZ := Lib.hid (Box.alloc_at ((w.alloc (.cells #[.int .i64 W, .int .i64 D, .int .i64 S, .slice a xs.length cap] 54)).alloc (.cells #[.int .i64 W', .int .i64 D', .int .i64 S', .slice b ys.length cap2] 54)) #[.int .i64 0, .int .i64 0, .int .i64 0, .slice none 0 0] 54 (b := w.heap.size + 2) (by simp))
  clear h h2
  cases h1 : mergeB W D S xs W' D' S' ys
  · rw [mergeR_no h1] at hv
    simp only [Prod.mk.injEq] at hv
    obtain ⟨rfl, rfl⟩ := hv
    have Q1 := Lib.hid h1
    clear h1
    go_enter Try.func44, Try.ntmps44
    go_wp2_with fail
    refine (c_impl_canMerge W D S a xs.length cap xs W' D' S' b ys.length cap2 ys _ Q1.out hm (H.out.on (by (repeat (first | assumption | exact Ext.refl _ | (with_reducible refine Ext.stepS ?_ (by first | exact Nat.le_refl _ | (simp; done) | (simp; omega)) _) | (with_reducible refine Ext.stepN ?_ _) | (with_reducible refine Ext.stepD ?_) | (with_reducible refine Ext.stepA ?_ _))))) hm2 (H2.out.on (by (repeat (first | assumption | exact Ext.refl _ | (with_reducible refine Ext.stepS ?_ (by first | exact Nat.le_refl _ | (simp; done) | (simp; omega)) _) | (with_reducible refine Ext.stepN ?_ _) | (with_reducible refine Ext.stepD ?_) | (with_reducible refine Ext.stepA ?_ _)))))).mono ?_; rintro e u1 ⟨rfl, x1⟩
    have X : Ext w u1 := Ext.trans (by (repeat (first | assumption | exact Ext.refl _ | (with_reducible refine Ext.stepS ?_ (by first | exact Nat.le_refl _ | (simp; done) | (simp; omega)) _) | (with_reducible refine Ext.stepN ?_ _) | (with_reducible refine Ext.stepD ?_) | (with_reducible refine Ext.stepA ?_ _)))) x1
    obtain ⟨z0, z1, z2, z3⟩ := (BZ.out.on x1).four
    obtain ⟨f0, f1, f2, f3⟩ := (BZ.out.on x1).free
    clear x1
    go_wp2
    refine bodyPost_ret (v := .tuple #[.agg #[.int .i64 0, .int .i64 0, .int .i64 0, .slice none 0 0], .bool false]) (by simp [results, Try.results44, go_sem, z0, z1, z2, z3]) rfl ⟨none, 0, rfl, Own.nil _ _ _ _, ?_⟩
    (repeat (first | assumption | exact Ext.refl _ | (with_reducible refine Ext.stepS ?_ (by first | exact Nat.le_refl _ | (simp; done) | (simp; omega)) _) | (with_reducible refine Ext.stepN ?_ _) | (with_reducible refine Ext.stepD ?_) | (with_reducible refine Ext.stepA ?_ _)))
  have Q1 := Lib.hid h1
  obtain ⟨m, d, rfl, rfl, rfl, rfl, rfl, oka, okb⟩ := merge_ok h1
  rw [mergeR_y h1] at hv
  have HV := Lib.hid hv
  have hxl : 0 < xs.length := by rw [oka.len]; exact Nat.mul_pos (by have := oka.m2; omega) oka.d1
  have hx4 := oka.le
  have hyl : ys.length = xs.length := by rw [okb.len, oka.len]
  have UA := Lib.hid oka.many
  have UB := Lib.hid okb.many
  have HYL := Lib.hid hyl
  clear hv h1 oka okb hyl
  go_enter Try.func44, Try.ntmps44
  go_wp2_with fail
  refine (c_impl_canMerge m d S' a xs.length cap xs m d S' b ys.length cap2 ys _ Q1.out hm (H.out.on (by (repeat (first | assumption | exact Ext.refl _ | (with_reducible refine Ext.stepS ?_ (by first | exact Nat.le_refl _ | (simp; done) | (simp; omega)) _) | (with_reducible refine Ext.stepN ?_ _) | (with_reducible refine Ext.stepD ?_) | (with_reducible refine Ext.stepA ?_ _))))) hm2 (H2.out.on (by (repeat (first | assumption | exact Ext.refl _ | (with_reducible refine Ext.stepS ?_ (by first | exact Nat.le_refl _ | (simp; done) | (simp; omega)) _) | (with_reducible refine Ext.stepN ?_ _) | (with_reducible refine Ext.stepD ?_) | (with_reducible refine Ext.stepA ?_ _)))))).mono ?_; rintro e wa ⟨rfl, x1⟩
  have X2 := Lib.hid (show Ext w wa from Ext.trans (by (repeat (first | assumption | exact Ext.refl _ | (with_reducible refine Ext.stepS ?_ (by first | exact Nat.le_refl _ | (simp; done) | (simp; omega)) _) | (with_reducible refine Ext.stepN ?_ _) | (with_reducible refine Ext.stepD ?_) | (with_reducible refine Ext.stepA ?_ _)))) x1)
  have BZ2 := Lib.hid (BZ.out.on x1)
  have BB2 := Lib.hid (BB.out.on x1)
  have BA2 := Lib.hid (BA.out.on x1)
  have HSZ := Lib.hid (show w.heap.size + 3 ≤ wa.heap.size by have h1 := BZ2.out.lt; omega)
  clear x1
  have H3 := Lib.hid (show Reads wa b xs.length (ints ys) by rw [← HYL.out]; exact H2.out.on X2.out)
  clear BA BB BZ
  rw [HYL.out] at BB2 ⊢
  obtain ⟨a0, a1, a2, a3⟩ := BA2.out.four
  obtain ⟨b0, b1, b2, b3⟩ := BB2.out.four
  have hne : w.heap.size ≠ wa.heap.size := by have := HSZ.out; omega
  have hne' : wa.heap.size ≠ w.heap.size := fun h => hne h.symm
  go_upto_region 3 with fail
  go_cut [6] (fun s6 wx => ∃ nb g c2 f2, s6 = .pointer (some ⟨nb, 0, none⟩) ∧ Box wx nb 54 #[.int .i64 m, .int .i64 d, .int .i64 S', .slice (some ⟨g, 0, none⟩) xs.length c2] ∧ wa.heap.size ≤ g ∧ nb ≠ g ∧ wa.heap.size ≤ nb ∧ xs.length ≤ c2 ∧ wx.rowIs g 2 c2 (rowT xs f2) ∧ Ext wa wx)
  case first =>
    go_region_held3 (fun w' => w'.cell? ⟨w.heap.size, 0, none⟩ = some (.int .i64 m) ∧ w'.cell? ⟨w.heap.size, 1, none⟩ = some (.int .i64 d) ∧ w'.cell? ⟨w.heap.size, 2, none⟩ = some (.int .i64 S') ∧ w'.cell? ⟨w.heap.size, 3, none⟩ = some (.slice a xs.length cap)) (first | exact KA | go_keep)
      (first | (go_at_call 98; refine (c_Clone_r a xs.length cap xs _ (by omega) (by omega) (H.out.on (X2.out.trans (by (repeat (first | assumption | exact Ext.refl _ | (with_reducible refine Ext.stepS ?_ (by first | exact Nat.le_refl _ | (simp; done) | (simp; omega)) _) | (with_reducible refine Ext.stepN ?_ _) | (with_reducible refine Ext.stepD ?_) | (with_reducible refine Ext.stepA ?_ _))))))).mono ?_; rintro e wb ⟨g, c2, f2, rfl, hg, hc2, r2, x2⟩; have EA : Ext wa wb := Ext.trans (by (repeat (first | assumption | exact Ext.refl _ | (with_reducible refine Ext.stepS ?_ (by first | exact Nat.le_refl _ | (simp; done) | (simp; omega)) _) | (with_reducible refine Ext.stepN ?_ _) | (with_reducible refine Ext.stepD ?_) | (with_reducible refine Ext.stepA ?_ _)))) x2; have BX2 := Lib.hid (BA2.out.on EA); have KA := BX2.out.four; have R2 := Lib.hid r2; have G2' := Lib.hid (show wa.heap.size ≤ g from Nat.le_trans (by first | exact Nat.le_refl _ | (simp; done) | (simp; omega)) hg);  have EH := Lib.hid EA; try (have NB := Lib.hid (Box.on (w := wa.alloc (.cells #[.int .i64 0, .int .i64 0, .int .i64 0, .slice none 0 0] 54)) (Box.alloc _ _ _) (Ext.trans (by (repeat (first | assumption | exact Ext.refl _ | (with_reducible refine Ext.stepS ?_ (by first | exact Nat.le_refl _ | (simp; done) | (simp; omega)) _) | (with_reducible refine Ext.stepN ?_ _) | (with_reducible refine Ext.stepD ?_) | (with_reducible refine Ext.stepA ?_ _)))) x2)); obtain ⟨z0, z1, z2, z3⟩ := NB.out.four; obtain ⟨y0, y1, y2, y3⟩ := NB.out.free; have GN := Lib.hid (show wa.heap.size < g by have := hg; simp at this; omega)); clear r2 x2 hg EA))
    · go_wp2_with fail
      go_meet
      exact ⟨wb.heap.size, g, c2, f2, rfl, Box.alloc _ _ _, G2'.out, by have := R2.out.lt; omega, EH.out.size, hc2, rowIs_on R2.out (Ext.alloc _ _), EH.out.stepA _⟩
    · go_wp2_with fail
      go_meet
      exact ⟨wa.heap.size, g, c2, f2, rfl, (((NB.out.put 0 _).put 1 _).put 2 _).put 3 _, by have := GN.out; omega, by have := GN.out; omega, Nat.le_refl _, hc2, (((R2.out.setOther (by have := GN.out; simp; omega) _).setOther (by have := GN.out; simp; omega) _).setOther (by have := GN.out; simp; omega) _).setOther (by have := GN.out; simp; omega) _, by have EH' := EH.out; (repeat (first | assumption | exact Ext.refl _ | (with_reducible refine Ext.stepS ?_ (by first | exact Nat.le_refl _ | (simp; done) | (simp; omega)) _) | (with_reducible refine Ext.stepN ?_ _) | (with_reducible refine Ext.stepD ?_) | (with_reducible refine Ext.stepA ?_ _)))⟩
  case rest =>
    obtain ⟨nb, g, c2, f2, rfl, hnb, hg, hng, hnw, hc2, hrow, hext⟩ := hcut
    have HNB := Lib.hid hnb
    have HRW := Lib.hid hrow
    have HEX := Lib.hid hext
    have HNG := Lib.hid hng
    have HG := Lib.hid hg
    have HNW := Lib.hid hnw
    clear hnb hrow hext a0 a1 a2 a3 b0 b1 b2 b3 hng hg hnw hne hne'
    obtain ⟨b0, b1, b2, b3⟩ := (BB2.out.on HEX.out).four
    go_wp2_with fail
    go_loopw [27] (fun i wr => ∃ k : Nat, k ≤ xs.length ∧ i = .int .i64 k ∧ wr.rowIs g 2 c2 (rowT (addUp xs ys k) f2) ∧ Touch g (g + 1) wc wr) (fun i _ => xs.length - (intOf i).toNat)
    case atStart => exact ⟨0, Nat.zero_le _, rfl, HRW.out, Touch.refl _ _ _⟩
    case round =>
      obtain ⟨k, hk, rfl, hrow, ht⟩ := hrel
      have HRR := Lib.hid hrow
      have HT := Lib.hid ht
      have HBB := Lib.hid (HNB.out.beside ht (by have := HNG.out; omega))
      have HX := Lib.hid (show Ext wa wr from Touch.ext HEX.out ht (by have := HG.out; omega))
      clear hrow ht b0 b1 b2 b3
      by_cases hlt : k < xs.length
      · obtain ⟨pb, po, rfl, hpc⟩ : ∃ b' off, b = some ⟨b', off, none⟩ ∧ wr.cell? ⟨b', off + k, none⟩ = some (.int .i64 (ys[k]?.getD 0)) := by
          obtain ⟨_, hq⟩ := (H3.out.on HX.out).int
          rcases hq with h0 | ⟨b', off', rfl, hq⟩
          · omega
          · exact ⟨b', off', rfl, hq k hlt⟩
        have hgc := HRR.out.cell (i := k) (by omega)
        rw [rowT_at (by rw [addUp_length]; exact hlt), addUp_get xs ys k k (Nat.le_refl _)] at hgc
        have hgf := HRR.out.frozen k
        have hxb := manyB_at UA.out hlt
        have hyb := manyB_at UB.out (i := k) (by rw [HYL.out]; exact hlt)
        obtain ⟨x, hx⟩ : ∃ x, xs[k]?.getD 0 = x := ⟨_, rfl⟩
        obtain ⟨y, hy⟩ : ∃ y, ys[k]?.getD 0 = y := ⟨_, rfl⟩
        rw [hx] at hxb hgc
        rw [hy] at hyb hpc
        have HS := Lib.hid (show (wr.setCell ⟨g, k, none⟩ (.int .i64 (x + y))).rowIs g 2 c2 (rowT (addUp xs ys (k + 1)) f2) from by
          have := rowT_set HRR.out (k := k) (by rw [addUp_length]; exact hlt) (x + y)
          show World.rowIs _ _ _ _ (rowT ((addUp xs ys k).set k (xs[k]?.getD 0 + ys[k]?.getD 0)) f2)
          rw [hx, hy]
          exact this)
        obtain ⟨n0, n1, n2, n3⟩ := HBB.out.four
        obtain ⟨b0, b1, b2, b3⟩ := (BB2.out.on HX.out).four
        obtain ⟨x0, x1⟩ := hxb
        obtain ⟨y0, y1⟩ := hyb
        have hkl : (k : Int) < (xs.length : Int) := by omega
        have hk0 : (0 : Int) ≤ (k : Int) := by omega
        clear hx hy
        go_wp2
        go_roundw
        case rel => exact ⟨k + 1, by omega, by go_num, HS.out, (HT.out).one _ _⟩
        case measure => simp [intOf]; omega
      · obtain rfl : k = xs.length := by omega
        obtain ⟨NZ, hNZ⟩ : ∃ z, addUp xs ys xs.length = z := ⟨_, rfl⟩
        have hNL : NZ.length = xs.length := by rw [← hNZ, addUp_length]
        have HV3 := Lib.hid (show sumCells m d S' NZ = (V, v) by rw [← hNZ]; exact HV.out)
        have HRN := Lib.hid (show wr.rowIs g 2 c2 (rowT NZ f2) by rw [← hNZ]; exact HRR.out)
        have HON := Lib.hid (own_rowT (lo := wa.heap.size) (by omega) HG.out HRN.out)
        have HZN := Lib.hid (BZ2.out.on HX.out)
        have HEW := Lib.hid (X2.out.trans HX.out)
        obtain ⟨n0, n1, n2, n3⟩ := HBB.out.four
        have HNL := Lib.hid hNL
        rw [hNL] at HON
        clear hNZ hNL
        cases hcb : cellsB m d S' NZ
        · have HCB := Lib.hid hcb
          have hv := HV3.out
          rw [sumCells_no hcb] at hv
          simp only [Prod.mk.injEq] at hv
          obtain ⟨rfl, rfl⟩ := hv
          clear hcb
          go_wp2_with fail
          refine (c_impl_cellsIfValid_no m d S' _ _ _ NZ _ HCB.out (by unfold maxLen; omega) HON.out.reads).mono ?_; rintro e wz ⟨rfl, xz⟩
          have EZ := HEW.out.trans xz
          obtain ⟨z0, z1, z2, z3⟩ := (HZN.out.on xz).four
          obtain ⟨y0, y1, y2, y3⟩ := (HZN.out.on xz).free
          clear n0 n1 n2 n3 xz
          go_wp2
          refine bodyPost_ret (v := .tuple #[.agg #[.int .i64 0, .int .i64 0, .int .i64 0, .slice none 0 0], .bool false]) (by simp [results, Try.results44, go_sem, z0, z1, z2, z3]) rfl ⟨none, 0, rfl, Own.nil _ _ _ _, ?_⟩
          (repeat (first | assumption | exact Ext.refl _ | (with_reducible refine Ext.stepS ?_ (by first | exact Nat.le_refl _ | (simp; done) | (simp; omega)) _) | (with_reducible refine Ext.stepN ?_ _) | (with_reducible refine Ext.stepD ?_) | (with_reducible refine Ext.stepA ?_ _)))
        · have HCB := Lib.hid hcb
          have hv := HV3.out
          rw [sumCells_y hcb] at hv
          simp only [Prod.mk.injEq] at hv
          obtain ⟨rfl, rfl⟩ := hv
          clear hcb
          go_wp2_with fail
          refine (c_impl_cellsIfValid m d S' _ _ _ NZ _ HCB.out (by unfold maxLen; omega) HON.out.reads).mono ?_; rintro e wz ⟨rfl, xz⟩
          have EZ := HEW.out.trans xz
          have HOZ := Lib.hid (HON.out.on xz)
          have HSW := Lib.hid xz.size
          obtain ⟨z0, z1, z2, z3⟩ := (HZN.out.on xz).four
          obtain ⟨y0, y1, y2, y3⟩ := (HZN.out.on xz).free
          have hszr := HX.out.size
          clear n0 n1 n2 n3 xz
          go_wp2
          refine bodyPost_ret (v := .tuple #[.agg #[.int .i64 m, .int .i64 d, .int .i64 S', .slice (some ⟨g, 0, none⟩) xs.length c2], .bool true]) (by simp [results, Try.results44, go_sem, z0, z1, z2, z3]) rfl ⟨some ⟨g, 0, none⟩, c2, by rw [HNL.out], ?_, ?_⟩
          · rw [HNL.out]
            refine own_touch HOZ.out (lo' := w.heap.size + 2) (hi' := w.heap.size + 3) ?_ (by have := HSZ.out; omega) (by have := HSZ.out; have := HSW.out; omega) HSW.out
            (repeat (first | assumption | exact Touch.refl _ _ _ | (with_reducible refine Touch.stepS ?_ (by first | exact Nat.le_refl _ | (simp; done) | (simp; omega)) (by first | (simp; done) | (simp; omega)) _) | (with_reducible refine Touch.stepN ?_ _) | (with_reducible refine Touch.stepA ?_ _)))
          · (repeat (first | assumption | exact Ext.refl _ | (with_reducible refine Ext.stepS ?_ (by first | exact Nat.le_refl _ | (simp; done) | (simp; omega)) _) | (with_reducible refine Ext.stepN ?_ _) | (with_reducible refine Ext.stepD ?_) | (with_reducible refine Ext.stepA ?_ _)))
end Go.Proofs.Ytfolflkbpdbkcac
