/- SieveOf: the other side. -/
import Derived.Test.YtfolflkbpdbkcaaSog
namespace Go.Proofs.Ytfolflkbpdbkcaa
open Go.ChangeShapes Go.WideShapes Go.ChangeAt Go.RowKit
set_option linter.unusedVariables false
theorem c_spec_l02Keys_q (a : Option Addr) (n cap : Nat) (zs : List Int) (w : World) {b : Bool} (hb : keysB zs = b) (hm : n ≤ maxLen) (h : Reads w a n (ints zs)) :
    Calls Try.prog 65 #[.slice a n cap] w fun e w' => e = .returned (.bool b) ∧ w = w' := by
  subst hb; exact c_spec_l02Keys a n cap zs w hm h
set_option maxHeartbeats 4000000 in
theorem c_spec_SieveOf (R S : Int) (a : Option Addr) (n cap : Nat) (bs : List Bool) (ka : Option Addr) (kn kc : Nat) (ks : List Int) (w : World) {V : SV} {v : Bool} (hv : sieveOfR R S bs ks = (V, v)) (hm : n ≤ maxLen) (h : Reads w a n (bools bs)) (hkm : kn ≤ maxLen) (hk : Reads w ka kn (ints ks)) :
    Calls Try.prog 30 #[.agg #[.int .i64 R, .int .i64 S, .slice a n cap], .slice ka kn kc] w (RetKVB 4 V v w) := by
  have hn := h.bool.1
  subst hn
  have hkn := hk.int.1
  subst hkn
  have H := Lib.hid h
  have HKR := Lib.hid hk
  have BX := Lib.hid ((Box.alloc w #[.int .i64 R, .int .i64 S, .slice a bs.length cap] 27).past (.cells #[.int .i64 0, .int .i64 0, .slice none 0 0] 27))
  have BZ := Lib.hid (Box.alloc_at (w.alloc (.cells #[.int .i64 R, .int .i64 S, .slice a bs.length cap] 27)) #[.int .i64 0, .int .i64 0, .slice none 0 0] 27 (b := w.heap.size + 1) (by simp))
  clear h hk
  cases hc : gridB R S bs.length
  · rw [sieveOfR_1 hc] at hv
    simp only [Prod.mk.injEq] at hv
    obtain ⟨rfl, rfl⟩ := hv
    have HC := Lib.hid hc
    clear hc
    go_enter Try.func30, Try.ntmps30
    go_wp2_with (go_at_call 49; refine (c_spec_l04Is w.heap.size R S a bs.length cap _ HC.out BX.out hm).mono ?_; rintro e u1 ⟨rfl, q, rfl⟩)
    refine bodyPost_ret (v := .tuple #[.agg #[.int .i64 0, .int .i64 0, .slice none 0 0], .bool false]) (by simp [results, Try.results30, go_sem]) rfl ⟨none, 0, rfl, Own.nil _ _ _ _, ?_⟩
    (repeat (first | assumption | exact Ext.refl _ | (with_reducible refine Ext.stepS ?_ (by first | exact Nat.le_refl _ | (simp; done) | (simp; omega)) _) | (with_reducible refine Ext.stepN ?_ _) | (with_reducible refine Ext.stepD ?_) | (with_reducible refine Ext.stepA ?_ _)))
  cases hkb : keysB ks
  · rw [sieveOfR_2 hkb] at hv
    simp only [Prod.mk.injEq] at hv
    obtain ⟨rfl, rfl⟩ := hv
    have HC := Lib.hid hc
    have HKB := Lib.hid hkb
    clear hc hkb
    go_enter Try.func30, Try.ntmps30
    go_wp2_with (first | (go_at_call 49; refine (c_spec_l04Is w.heap.size R S a bs.length cap _ HC.out BX.out hm).mono ?_; rintro e u1 ⟨rfl, q, rfl⟩) | (go_at_call 65; refine (c_spec_l02Keys_q ka ks.length kc ks _ HKB.out hkm (HKR.out.on (by (repeat (first | assumption | exact Ext.refl _ | (with_reducible refine Ext.stepS ?_ (by first | exact Nat.le_refl _ | (simp; done) | (simp; omega)) _) | (with_reducible refine Ext.stepN ?_ _) | (with_reducible refine Ext.stepD ?_) | (with_reducible refine Ext.stepA ?_ _)))))).mono ?_; rintro e w' ⟨rfl, rfl⟩))
    refine bodyPost_ret (v := .tuple #[.agg #[.int .i64 0, .int .i64 0, .slice none 0 0], .bool false]) (by simp [results, Try.results30, go_sem]) rfl ⟨none, 0, rfl, Own.nil _ _ _ _, ?_⟩
    (repeat (first | assumption | exact Ext.refl _ | (with_reducible refine Ext.stepS ?_ (by first | exact Nat.le_refl _ | (simp; done) | (simp; omega)) _) | (with_reducible refine Ext.stepN ?_ _) | (with_reducible refine Ext.stepD ?_) | (with_reducible refine Ext.stepA ?_ _)))
  obtain ⟨r, m, rfl, hm2, ok⟩ := grid_ok hc
  obtain rfl : bs.length = m := by omega
  rw [sieveOfR_y hc hkb] at hv
  simp only [Prod.mk.injEq] at hv
  obtain ⟨hv, rfl⟩ := hv
  have HV := Lib.hid hv
  have OK := Lib.hid ok
  have HC := Lib.hid hc
  have HKB := Lib.hid hkb
  have hk256 := keysB_len hkb
  have hn1 := ok.n1
  have hn5 := ok.n512
  clear hc hkb hv ok hm2
  go_enter Try.func30, Try.ntmps30
  go_wp2_with (first | (go_at_call 49; refine (c_spec_l04Is w.heap.size r S a bs.length cap _ HC.out BX.out hm).mono ?_; rintro e u1 ⟨rfl, q, rfl⟩) | (go_at_call 65; refine (c_spec_l02Keys_q ka ks.length kc ks _ HKB.out hkm (HKR.out.on (by (repeat (first | assumption | exact Ext.refl _ | (with_reducible refine Ext.stepS ?_ (by first | exact Nat.le_refl _ | (simp; done) | (simp; omega)) _) | (with_reducible refine Ext.stepN ?_ _) | (with_reducible refine Ext.stepD ?_) | (with_reducible refine Ext.stepA ?_ _)))))).mono ?_; rintro e w' ⟨rfl, rfl⟩))
  refine (c_spec_l04Own w.heap.size r S a bs.length cap bs _ (by omega) (by omega) (BX.out.on (by (repeat (first | assumption | exact Ext.refl _ | (with_reducible refine Ext.stepS ?_ (by first | exact Nat.le_refl _ | (simp; done) | (simp; omega)) _) | (with_reducible refine Ext.stepN ?_ _) | (with_reducible refine Ext.stepD ?_) | (with_reducible refine Ext.stepA ?_ _))))) (H.out.on (by (repeat (first | assumption | exact Ext.refl _ | (with_reducible refine Ext.stepS ?_ (by first | exact Nat.le_refl _ | (simp; done) | (simp; omega)) _) | (with_reducible refine Ext.stepN ?_ _) | (with_reducible refine Ext.stepD ?_) | (with_reducible refine Ext.stepA ?_ _)))))).mono ?_; rintro e wa ⟨g, c2, f2, rfl, hg, hc2, hrow, x'⟩
  have X1 := Lib.hid (show Ext w wa from Ext.trans (by (repeat (first | assumption | exact Ext.refl _ | (with_reducible refine Ext.stepS ?_ (by first | exact Nat.le_refl _ | (simp; done) | (simp; omega)) _) | (with_reducible refine Ext.stepN ?_ _) | (with_reducible refine Ext.stepD ?_) | (with_reducible refine Ext.stepA ?_ _)))) x')
  have BZ1 := Lib.hid (show Box wa (w.heap.size + 1) 27 _ from Box.on BZ.out (Ext.trans (by (repeat (first | assumption | exact Ext.refl _ | (with_reducible refine Ext.stepS ?_ (by first | exact Nat.le_refl _ | (simp; done) | (simp; omega)) _) | (with_reducible refine Ext.stepN ?_ _) | (with_reducible refine Ext.stepD ?_) | (with_reducible refine Ext.stepA ?_ _)))) x'))
  have HG := Lib.hid (show w.heap.size + 2 ≤ g from Nat.le_trans (by first | omega | (simp; done) | (simp; omega)) hg)
  have HGL := Lib.hid hrow.lt
  have hgl := hrow.lt
  have HRW := Lib.hid (rowIs_on hrow (Ext.alloc wa (.cells #[.int .i64 r, .int .i64 S, .slice (some ⟨g, 0, none⟩) bs.length c2] 27)))
  have BO := Lib.hid (Box.alloc wa #[.int .i64 r, .int .i64 S, .slice (some ⟨g, 0, none⟩) bs.length c2] 27)
  clear hrow hg x'
  have hq1 : w.heap.size + 1 ≠ wa.heap.size := by have := HG.out; omega
  have hq2 : wa.heap.size ≠ w.heap.size + 1 := fun h => hq1 h.symm
  have BZ1' := Lib.hid (BZ1.out.past (.cells #[.int .i64 r, .int .i64 S, .slice (some ⟨g, 0, none⟩) bs.length c2] 27))
  have X1' := Lib.hid (X1.out.stepA (.cells #[.int .i64 r, .int .i64 S, .slice (some ⟨g, 0, none⟩) bs.length c2] 27))
  go_wp2_with fail
  go_loopw [7] (fun i wr => ∃ k : Nat, k ≤ ks.length ∧ i = .int .i64 k ∧ wr.rowIs g 4 c2 (rowB (putsN S bs.length r ks bs k) f2) ∧ Touch g (g + 1) (wa.alloc (.cells #[.int .i64 r, .int .i64 S, .slice (some ⟨g, 0, none⟩) bs.length c2] 27)) wr) (fun i _ => ks.length - (intOf i).toNat)
  case atStart => exact ⟨0, Nat.zero_le _, rfl, HRW.out, Touch.refl _ _ _⟩
  case round =>
    obtain ⟨k, hk, rfl, hrow, ht⟩ := hrel
    have HRR := Lib.hid hrow
    have HT := Lib.hid ht
    have BO2 := Lib.hid (BO.out.beside ht (by have := HGL.out; omega))
    have X2 := Lib.hid (show Ext w wr from Touch.ext X1'.out ht (by have := HG.out; omega))
    clear hrow ht
    by_cases hlt : k < ks.length
    · obtain ⟨kb, ko, rfl, hkc⟩ : ∃ b off, ka = some ⟨b, off, none⟩ ∧ wr.cell? ⟨b, off + k, none⟩ = some (.int .i64 (ks[k]?.getD 0)) := by
        obtain ⟨_, hq⟩ := (HKR.out.on X2.out).int
        rcases hq with h0 | ⟨b', off', rfl, hq⟩
        · omega
        · exact ⟨b', off', rfl, hq k hlt⟩
      obtain ⟨key, hkey⟩ : ∃ key, ks[k]?.getD 0 = key := ⟨_, rfl⟩
      have HKY := Lib.hid (show keyB key = true by rw [← hkey]; exact keysB_at HKB.out hlt)
      rw [hkey] at hkc
      obtain ⟨ys, hys⟩ : ∃ ys, putsN S bs.length r ks bs k = ys := ⟨_, rfl⟩
      have hyl : ys.length = bs.length := by rw [← hys, putsN_length]
      have HYN := Lib.hid (show putsN S bs.length r ks bs (k + 1) = setsAt (gplace S key ys.length) ys r by show setsAt (gplace S (ks[k]?.getD 0) bs.length) (putsN S bs.length r ks bs k) r = _; rw [hkey, hys, hyl])
      have HRY := Lib.hid (show wr.rowIs g 4 c2 (rowB ys f2) by rw [← hys]; exact HRR.out)
      have HYL := Lib.hid hyl
      have hc2' : ys.length ≤ c2 := by omega
      have hgne : wa.heap.size ≠ g := by have := HGL.out; omega
      clear hkey hys hyl
      go_wp2_with fail
      refine (c_spec_l04Put wa.heap.size g r S key c2 ys f2 _ (by rw [HYL.out]; exact OK.out) HKY.out hc2' hgne (by rw [HYL.out]; exact BO2.out) HRY.out).mono ?_; rintro e wb ⟨rfl, hrow, ht⟩
      have HRB := Lib.hid hrow
      have HTB := Lib.hid (HT.out.trans ht)
      clear hrow ht hkc
      go_wp2
      go_roundw
      case rel => exact ⟨k + 1, by omega, by go_num, by rw [HYN.out]; exact HRB.out, HTB.out⟩
      case measure => simp [intOf]; omega
    · obtain rfl : k = ks.length := by omega
      have BZ2 := Lib.hid (BZ1'.out.beside HT.out (by have := HG.out; omega))
      obtain ⟨NZ, hNZ⟩ : ∃ z, putsN S bs.length r ks bs ks.length = z := ⟨_, rfl⟩
      have hNL : NZ.length = bs.length := by rw [← hNZ, putsN_length]
      have HVV := Lib.hid (show V = ⟨r, S, NZ⟩ by rw [← hNZ]; exact HV.out.symm)
      have HRN := Lib.hid (show wr.rowIs g 4 c2 (rowB NZ f2) by rw [← hNZ]; exact HRR.out)
      have HON := Lib.hid (own_rowB (lo := w.heap.size + 2) (by omega) HG.out HRN.out)
      have HNL := Lib.hid hNL
      obtain ⟨n0, n1, n2⟩ := BO2.out.three
      obtain ⟨z0, z1, z2⟩ := BZ2.out.three
      obtain ⟨y0, y1, y2, y3⟩ := BZ2.out.free
      have hsz := X2.out.size
      clear hNZ hNL
      go_wp2
      refine bodyPost_ret (v := .tuple #[.agg #[.int .i64 r, .int .i64 S, .slice (some ⟨g, 0, none⟩) bs.length c2], .bool true]) (by simp [results, Try.results30, go_sem, z0, z1, z2]) rfl ⟨some ⟨g, 0, none⟩, c2, by rw [HVV.out, HNL.out], ?_, ?_⟩
      · rw [HVV.out]
        refine own_touch HON.out (lo' := w.heap.size + 1) (hi' := w.heap.size + 2) ?_ (by omega) (by omega) (Nat.le_refl _)
        (repeat (first | assumption | exact Touch.refl _ _ _ | (with_reducible refine Touch.stepS ?_ (by first | exact Nat.le_refl _ | (simp; done) | (simp; omega)) (by first | (simp; done) | (simp; omega)) _) | (with_reducible refine Touch.stepN ?_ _) | (with_reducible refine Touch.stepA ?_ _)))
      · have X2' := X2.out
        (repeat (first | assumption | exact Ext.refl _ | (with_reducible refine Ext.stepS ?_ (by first | exact Nat.le_refl _ | (simp; done) | (simp; omega)) _) | (with_reducible refine Ext.stepN ?_ _) | (with_reducible refine Ext.stepD ?_) | (with_reducible refine Ext.stepA ?_ _)))
end Go.Proofs.Ytfolflkbpdbkcaa
