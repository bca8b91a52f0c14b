/- JoinZeros: the program's side. -/
import Derived.Test.YtfolflkbpdbkcabOwz
namespace Go.Proofs.Ytfolflkbpdbkcab
open Go.ChangeShapes Go.WideShapes Go.ChangeAt Go.RowKit
set_option linter.unusedVariables false
set_option maxHeartbeats 4000000 in
theorem c_impl_JoinZeros (Sa : Int) (a : Option Addr) (n cap : Nat) (xs : List Int) (Sb : Int) (b : Option Addr) (n2 cap2 : Nat) (ys : List Int) (w : World) {V : FV} {v : Bool} (hv : joinZR Sa xs Sb ys = (V, v)) (hm : n ≤ maxLen) (h : Reads w a n (ints xs)) (hm2 : n2 ≤ maxLen) (h2 : Reads w b n2 (ints ys)) :
    Calls Try.prog 51 #[.agg #[.int .i64 Sa, .slice a n cap], .agg #[.int .i64 Sb, .slice b n2 cap2]] w (RetKFB 2 V v w) := by
  have hn := h.int.1
  subst hn
  have hn2 := h2.int.1
  subst hn2
  have H := Lib.hid h
  have H2 := Lib.hid h2
  have BA := Lib.hid (((Box.alloc w #[.int .i64 Sa, .slice a xs.length cap] 54).past (.cells #[.int .i64 Sb, .slice b ys.length cap2] 54)).past (.cells #[.int .i64 0, .slice none 0 0] 54))
  have BB := Lib.hid ((Box.alloc_at (w.alloc (.cells #[.int .i64 Sa, .slice a xs.length cap] 54)) #[.int .i64 Sb, .slice b ys.length cap2] 54 (b := w.heap.size + 1) (by simp)).past (.cells #[.int .i64 0, .slice none 0 0] 54))
  have BZ := Lib.hid (Box.alloc_at ((w.alloc (.cells #[.int .i64 Sa, .slice a xs.length cap] 54)).alloc (.cells #[.int .i64 Sb, .slice b ys.length cap2] 54)) #[.int .i64 0, .slice none 0 0] 54 (b := w.heap.size + 2) (by simp))
  clear h h2
  cases h1 : zerB Sa xs
  · rw [joinZR_no (likeZ_1 h1)] at hv
    simp only [Prod.mk.injEq] at hv
    obtain ⟨rfl, rfl⟩ := hv
    have Q1 := Lib.hid h1
    clear h1
    go_enter Try.func51, Try.ntmps51
    go_wp2_with fail
    refine (c_impl_ValidZeros Sa a xs.length cap xs _ Q1.out hm (H.out.on (by (repeat (first | assumption | exact Ext.refl _ | (with_reducible refine Ext.stepS ?_ (by first | exact Nat.le_refl _ | (simp; done) | (simp; omega)) _) | (with_reducible refine Ext.stepN ?_ _) | (with_reducible refine Ext.stepD ?_) | (with_reducible refine Ext.stepA ?_ _)))))).mono ?_; rintro e u1 ⟨rfl, x1⟩
    have X : Ext w u1 := Ext.trans (by (repeat (first | assumption | exact Ext.refl _ | (with_reducible refine Ext.stepS ?_ (by first | exact Nat.le_refl _ | (simp; done) | (simp; omega)) _) | (with_reducible refine Ext.stepN ?_ _) | (with_reducible refine Ext.stepD ?_) | (with_reducible refine Ext.stepA ?_ _)))) x1
    obtain ⟨z0, z1⟩ := (BZ.out.on x1).two
    obtain ⟨f0, f1, f2, f3⟩ := (BZ.out.on x1).free
    clear x1
    go_wp2
    refine bodyPost_ret (v := .tuple #[.agg #[.int .i64 0, .slice none 0 0], .bool false]) (by simp [results, Try.results51, go_sem, z0, z1]) rfl ⟨none, 0, rfl, Own.nil _ _ _ _, ?_⟩
    (repeat (first | assumption | exact Ext.refl _ | (with_reducible refine Ext.stepS ?_ (by first | exact Nat.le_refl _ | (simp; done) | (simp; omega)) _) | (with_reducible refine Ext.stepN ?_ _) | (with_reducible refine Ext.stepD ?_) | (with_reducible refine Ext.stepA ?_ _)))
  have Q1 := Lib.hid h1
  cases h2 : zerB Sb ys
  · rw [joinZR_no (likeZ_2 h2)] at hv
    simp only [Prod.mk.injEq] at hv
    obtain ⟨rfl, rfl⟩ := hv
    have Q2 := Lib.hid h2
    clear h1 h2
    go_enter Try.func51, Try.ntmps51
    go_wp2_with fail
    refine (c_impl_ValidZeros Sa a xs.length cap xs _ Q1.out hm (H.out.on (by (repeat (first | assumption | exact Ext.refl _ | (with_reducible refine Ext.stepS ?_ (by first | exact Nat.le_refl _ | (simp; done) | (simp; omega)) _) | (with_reducible refine Ext.stepN ?_ _) | (with_reducible refine Ext.stepD ?_) | (with_reducible refine Ext.stepA ?_ _)))))).mono ?_; rintro e u1 ⟨rfl, x1⟩
    have X1 := Lib.hid (show Ext w u1 from Ext.trans (by (repeat (first | assumption | exact Ext.refl _ | (with_reducible refine Ext.stepS ?_ (by first | exact Nat.le_refl _ | (simp; done) | (simp; omega)) _) | (with_reducible refine Ext.stepN ?_ _) | (with_reducible refine Ext.stepD ?_) | (with_reducible refine Ext.stepA ?_ _)))) x1)
    have BZ1 := Lib.hid (BZ.out.on x1)
    have BB1 := Lib.hid (BB.out.on x1)
    obtain ⟨b0, b1⟩ := BB1.out.two
    clear x1
    go_wp2_with fail
    refine (c_impl_ValidZeros Sb b ys.length cap2 ys _ Q2.out hm2 (H2.out.on X1.out)).mono ?_; rintro e u2 ⟨rfl, x1⟩
    have X : Ext w u2 := X1.out.trans x1
    obtain ⟨z0, z1⟩ := (BZ1.out.on x1).two
    obtain ⟨f0, f1, f2, f3⟩ := (BZ1.out.on x1).free
    clear x1 b0 b1
    go_wp2
    refine bodyPost_ret (v := .tuple #[.agg #[.int .i64 0, .slice none 0 0], .bool false]) (by simp [results, Try.results51, go_sem, z0, z1]) rfl ⟨none, 0, rfl, Own.nil _ _ _ _, ?_⟩
    (repeat (first | assumption | exact Ext.refl _ | (with_reducible refine Ext.stepS ?_ (by first | exact Nat.le_refl _ | (simp; done) | (simp; omega)) _) | (with_reducible refine Ext.stepN ?_ _) | (with_reducible refine Ext.stepD ?_) | (with_reducible refine Ext.stepA ?_ _)))
  have Q2 := Lib.hid h2
  clear h1 h2
  go_enter Try.func51, Try.ntmps51
  go_wp2_with fail
  refine (c_impl_ValidZeros Sa a xs.length cap xs _ Q1.out hm (H.out.on (by (repeat (first | assumption | exact Ext.refl _ | (with_reducible refine Ext.stepS ?_ (by first | exact Nat.le_refl _ | (simp; done) | (simp; omega)) _) | (with_reducible refine Ext.stepN ?_ _) | (with_reducible refine Ext.stepD ?_) | (with_reducible refine Ext.stepA ?_ _)))))).mono ?_; rintro e u1 ⟨rfl, x1⟩
  have X1 := Lib.hid (show Ext w u1 from Ext.trans (by (repeat (first | assumption | exact Ext.refl _ | (with_reducible refine Ext.stepS ?_ (by first | exact Nat.le_refl _ | (simp; done) | (simp; omega)) _) | (with_reducible refine Ext.stepN ?_ _) | (with_reducible refine Ext.stepD ?_) | (with_reducible refine Ext.stepA ?_ _)))) x1)
  have BZ1 := Lib.hid (BZ.out.on x1)
  have BB1 := Lib.hid (BB.out.on x1)
  have BA1 := Lib.hid (BA.out.on x1)
  obtain ⟨b0, b1⟩ := BB1.out.two
  clear x1
  go_wp2_with fail
  refine (c_impl_ValidZeros Sb b ys.length cap2 ys _ Q2.out hm2 (H2.out.on X1.out)).mono ?_; rintro e wa ⟨rfl, x1⟩
  have X2 := Lib.hid (show Ext w wa from X1.out.trans x1)
  have BZ2 := Lib.hid (BZ1.out.on x1)
  have BB2 := Lib.hid (BB1.out.on x1)
  have BA2 := Lib.hid (BA1.out.on x1)
  have HSZ := Lib.hid (show w.heap.size + 3 ≤ wa.heap.size by have h1 := BZ2.out.lt; omega)
  clear x1 b0 b1
  obtain ⟨b0, b1⟩ := BB2.out.two
  obtain ⟨a0, a1⟩ := BA2.out.two
  obtain ⟨z0, z1⟩ := BZ2.out.two
  obtain ⟨f0, f1, f2, f3⟩ := BZ2.out.free
  by_cases hS : Sa = Sb
  rotate_left
  · rw [joinZR_no (likeZ_3 hS)] at hv
    simp only [Prod.mk.injEq] at hv
    obtain ⟨rfl, rfl⟩ := hv
    have hs1 : (Sa == Sb) = false := by simpa using hS
    have hs2 : (Sa != Sb) = true := by simpa using hS
    go_wp2
    refine bodyPost_ret (v := .tuple #[.agg #[.int .i64 0, .slice none 0 0], .bool false]) (by simp [results, Try.results51, go_sem, z0, z1]) rfl ⟨none, 0, rfl, Own.nil _ _ _ _, ?_⟩
    have X2' := X2.out
    (repeat (first | assumption | exact Ext.refl _ | (with_reducible refine Ext.stepS ?_ (by first | exact Nat.le_refl _ | (simp; done) | (simp; omega)) _) | (with_reducible refine Ext.stepN ?_ _) | (with_reducible refine Ext.stepD ?_) | (with_reducible refine Ext.stepA ?_ _)))
  subst hS
  by_cases hL : xs.length = ys.length
  rotate_left
  · rw [joinZR_no (likeZ_4 hL)] at hv
    simp only [Prod.mk.injEq] at hv
    obtain ⟨rfl, rfl⟩ := hv
    have hs1 : ((xs.length : Int) == (ys.length : Int)) = false := by simp; omega
    have hs2 : ((xs.length : Int) != (ys.length : Int)) = true := by simp; omega
    go_wp2
    refine bodyPost_ret (v := .tuple #[.agg #[.int .i64 0, .slice none 0 0], .bool false]) (by simp [results, Try.results51, go_sem, z0, z1]) rfl ⟨none, 0, rfl, Own.nil _ _ _ _, ?_⟩
    have X2' := X2.out
    (repeat (first | assumption | exact Ext.refl _ | (with_reducible refine Ext.stepS ?_ (by first | exact Nat.le_refl _ | (simp; done) | (simp; omega)) _) | (with_reducible refine Ext.stepN ?_ _) | (with_reducible refine Ext.stepD ?_) | (with_reducible refine Ext.stepA ?_ _)))
  rw [joinZR_y (likeZ_y Q1.out Q2.out hL)] at hv
  simp only [Prod.mk.injEq] at hv
  obtain ⟨hv, rfl⟩ := hv
  have HV := Lib.hid hv
  have hzl := zer_len Q1.out
  have H3 := Lib.hid (show Reads wa b xs.length (ints ys) by rw [hL]; exact H2.out.on X2.out)
  have hyl : ys.length = xs.length := hL.symm
  have HL := Lib.hid hL
  have HYL := Lib.hid hyl
  rw [hyl] at b1 ⊢
  clear hv hL hyl z0 z1 f0 f1 f2 f3
  have hne : w.heap.size ≠ wa.heap.size := by have := HSZ.out; omega
  have hne' : wa.heap.size ≠ w.heap.size := fun h => hne h.symm
  go_upto_region 3 with fail
  go_cut [6] (fun s6 wx => ∃ nb g c2 f2, s6 = .pointer (some ⟨nb, 0, none⟩) ∧ Box wx nb 54 #[.int .i64 Sa, .slice (some ⟨g, 0, none⟩) xs.length c2] ∧ wa.heap.size ≤ g ∧ nb ≠ g ∧ wa.heap.size ≤ nb ∧ xs.length ≤ c2 ∧ wx.rowIs g 2 c2 (rowT xs f2) ∧ Ext wa wx)
  case first =>
    go_region_held3 (fun w' => w'.cell? ⟨w.heap.size, 0, none⟩ = some (.int .i64 Sa) ∧ w'.cell? ⟨w.heap.size, 1, none⟩ = some (.slice a xs.length cap)) (first | exact KA | go_keep)
      (first | (go_at_call 77; refine (c_Clone_r a xs.length cap xs _ (by omega) (by omega) (H.out.on (X2.out.trans (by (repeat (first | assumption | exact Ext.refl _ | (with_reducible refine Ext.stepS ?_ (by first | exact Nat.le_refl _ | (simp; done) | (simp; omega)) _) | (with_reducible refine Ext.stepN ?_ _) | (with_reducible refine Ext.stepD ?_) | (with_reducible refine Ext.stepA ?_ _))))))).mono ?_; rintro e wb ⟨g, c2, f2, rfl, hg, hc2, r2, x2⟩; have EA : Ext wa wb := Ext.trans (by (repeat (first | assumption | exact Ext.refl _ | (with_reducible refine Ext.stepS ?_ (by first | exact Nat.le_refl _ | (simp; done) | (simp; omega)) _) | (with_reducible refine Ext.stepN ?_ _) | (with_reducible refine Ext.stepD ?_) | (with_reducible refine Ext.stepA ?_ _)))) x2; have BX2 := Lib.hid (BA2.out.on EA); have KA := BX2.out.two; have R2 := Lib.hid r2; have G2' := Lib.hid (show wa.heap.size ≤ g from Nat.le_trans (by first | exact Nat.le_refl _ | (simp; done) | (simp; omega)) hg);  have EH := Lib.hid EA; try (have NB := Lib.hid (Box.on (w := wa.alloc (.cells #[.int .i64 0, .slice none 0 0] 54)) (Box.alloc _ _ _) (Ext.trans (by (repeat (first | assumption | exact Ext.refl _ | (with_reducible refine Ext.stepS ?_ (by first | exact Nat.le_refl _ | (simp; done) | (simp; omega)) _) | (with_reducible refine Ext.stepN ?_ _) | (with_reducible refine Ext.stepD ?_) | (with_reducible refine Ext.stepA ?_ _)))) x2)); obtain ⟨z0, z1⟩ := NB.out.two; obtain ⟨y0, y1, y2, y3⟩ := NB.out.free; have GN := Lib.hid (show wa.heap.size < g by have := hg; simp at this; omega)); clear r2 x2 hg EA))
    · go_wp2_with fail
      go_meet
      exact ⟨wb.heap.size, g, c2, f2, rfl, Box.alloc _ _ _, G2'.out, by have := R2.out.lt; omega, EH.out.size, hc2, rowIs_on R2.out (Ext.alloc _ _), EH.out.stepA _⟩
    · go_wp2_with fail
      go_meet
      exact ⟨wa.heap.size, g, c2, f2, rfl, (NB.out.put 0 _).put 1 _, by have := GN.out; omega, by have := GN.out; omega, Nat.le_refl _, hc2, (R2.out.setOther (by have := GN.out; simp; omega) _).setOther (by have := GN.out; simp; omega) _, by have EH' := EH.out; (repeat (first | assumption | exact Ext.refl _ | (with_reducible refine Ext.stepS ?_ (by first | exact Nat.le_refl _ | (simp; done) | (simp; omega)) _) | (with_reducible refine Ext.stepN ?_ _) | (with_reducible refine Ext.stepD ?_) | (with_reducible refine Ext.stepA ?_ _)))⟩
  case rest =>
    obtain ⟨nb, g, c2, f2, rfl, hnb, hg, hng, hnw, hc2, hrow, hext⟩ := hcut
    have HNB := Lib.hid hnb
    have HRW := Lib.hid hrow
    have HEX := Lib.hid hext
    have HNG := Lib.hid hng
    have HG := Lib.hid hg
    have HNW := Lib.hid hnw
    clear hnb hrow hext a0 a1 b0 b1 hng hg hnw hne hne'
    obtain ⟨b0, b1⟩ := (BB2.out.on HEX.out).two
    rw [HYL.out] at b1
    go_wp2_with fail
    go_loopw [43] (fun i wr => ∃ k : Nat, k ≤ xs.length ∧ i = .int .i64 k ∧ wr.rowIs g 2 c2 (rowT (maxUp xs ys k) f2) ∧ Touch g (g + 1) wc wr) (fun i _ => xs.length - (intOf i).toNat)
    case atStart => exact ⟨0, Nat.zero_le _, rfl, HRW.out, Touch.refl _ _ _⟩
    case round =>
      obtain ⟨k, hk, rfl, hrow, ht⟩ := hrel
      have HRR := Lib.hid hrow
      have HT := Lib.hid ht
      have HBB := Lib.hid (HNB.out.beside ht (by have := HNG.out; omega))
      have HX := Lib.hid (show Ext wa wr from Touch.ext HEX.out ht HG.out)
      clear hrow ht b0 b1
      by_cases hlt : k < xs.length
      · obtain ⟨pb, po, rfl, hpc⟩ : ∃ b' off, b = some ⟨b', off, none⟩ ∧ wr.cell? ⟨b', off + k, none⟩ = some (.int .i64 (ys[k]?.getD 0)) := by
          obtain ⟨_, hq⟩ := (H3.out.on HX.out).int
          rcases hq with h0 | ⟨b', off', rfl, hq⟩
          · omega
          · exact ⟨b', off', rfl, hq k hlt⟩
        have hgc := HRR.out.cell (i := k) (by omega)
        rw [rowT_at (by rw [maxUp_length]; exact hlt), maxUp_get xs ys k k (Nat.le_refl _)] at hgc
        have hgf := HRR.out.frozen k
        obtain ⟨x, hx⟩ : ∃ x, xs[k]?.getD 0 = x := ⟨_, rfl⟩
        obtain ⟨y, hy⟩ : ∃ y, ys[k]?.getD 0 = y := ⟨_, rfl⟩
        obtain ⟨z, hz⟩ : ∃ z, max x y = z := ⟨_, rfl⟩
        have HS := Lib.hid (show (wr.setCell ⟨g, k, none⟩ (.int .i64 z)).rowIs g 2 c2 (rowT (maxUp xs ys (k + 1)) f2) from by
          have := rowT_set HRR.out (k := k) (by rw [maxUp_length]; exact hlt) z
          show World.rowIs _ _ _ _ (rowT ((maxUp xs ys k).set k (max (xs[k]?.getD 0) (ys[k]?.getD 0))) f2)
          rw [hx, hy, hz]
          exact this)
        obtain ⟨n0, n1⟩ := HBB.out.two
        rw [hx] at hgc
        rw [hy] at hpc
        clear hx hy
        by_cases hxy : x < y
        · obtain rfl : z = y := by omega
          clear hz
          go_wp2_with fail
          go_region
          all_goals
            go_wp2
            go_roundw
            case rel => exact ⟨k + 1, by omega, by go_num, HS.out, (HT.out.of_drew _).one _ _⟩
            case measure => simp [intOf]; omega
        · obtain rfl : z = x := by omega
          clear hz
          go_wp2_with fail
          go_region
          all_goals
            go_wp2
            go_roundw
            case rel => exact ⟨k + 1, by omega, by go_num, HS.out, (HT.out.of_drew _).one _ _⟩
            case measure => simp [intOf]; omega
      · obtain rfl : k = xs.length := by omega
        obtain ⟨NZ, hNZ⟩ : ∃ z, maxUp xs ys xs.length = z := ⟨_, rfl⟩
        have hNL : NZ.length = xs.length := by rw [← hNZ, maxUp_length]
        have HVV := Lib.hid (show V = ⟨Sa, NZ⟩ by rw [← hNZ]; exact HV.out.symm)
        have HRN := Lib.hid (show wr.rowIs g 2 c2 (rowT NZ f2) by rw [← hNZ]; exact HRR.out)
        have HON := Lib.hid (own_rowT (lo := wa.heap.size) (by omega) HG.out HRN.out)
        have HZN := Lib.hid (BZ2.out.on HX.out)
        have HEW := Lib.hid (X2.out.trans HX.out)
        have HNL := Lib.hid hNL
        obtain ⟨n0, n1⟩ := HBB.out.two
        obtain ⟨z0, z1⟩ := HZN.out.two
        obtain ⟨y0, y1, y2, y3⟩ := HZN.out.free
        have hnbz : w.heap.size + 2 ≠ nb := by have := HSZ.out; have := HNW.out; omega
        have hnbz' : nb ≠ w.heap.size + 2 := fun h => hnbz h.symm
        clear hNZ hNL
        go_wp2
        refine bodyPost_ret (v := .tuple #[.agg #[.int .i64 Sa, .slice (some ⟨g, 0, none⟩) xs.length c2], .bool true]) (by simp [results, Try.results51, go_sem, z0, z1]) rfl ⟨some ⟨g, 0, none⟩, c2, by rw [HVV.out, HNL.out], ?_, ?_⟩
        · rw [HVV.out]
          refine own_touch HON.out (lo' := w.heap.size + 2) (hi' := w.heap.size + 3) ?_ (by have := HSZ.out; omega) (by have := HSZ.out; omega) (Nat.le_refl _)
          (repeat (first | assumption | exact Touch.refl _ _ _ | (with_reducible refine Touch.stepS ?_ (by first | exact Nat.le_refl _ | (simp; done) | (simp; omega)) (by first | (simp; done) | (simp; omega)) _) | (with_reducible refine Touch.stepN ?_ _) | (with_reducible refine Touch.stepA ?_ _)))
        · have HEW' := HEW.out
          (repeat (first | assumption | exact Ext.refl _ | (with_reducible refine Ext.stepS ?_ (by first | exact Nat.le_refl _ | (simp; done) | (simp; omega)) _) | (with_reducible refine Ext.stepN ?_ _) | (with_reducible refine Ext.stepD ?_) | (with_reducible refine Ext.stepA ?_ _)))
end Go.Proofs.Ytfolflkbpdbkcab
