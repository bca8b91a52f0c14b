/- PutCells: both sides. -/
import Derived.Test.YtjckikcndoobnaaOwc
namespace Go.Proofs.Ytjckikcndoobnaa
open Go.ChangeShapes Go.WideShapes Go.ChangeAt Go.RowKit
set_option linter.unusedVariables false
def putR (W D S : Int) (zs : List Int) (key y : Int) : CV × Bool := if cellsB W D S zs && keyB key && inB (-1000000) y 1000000 then changeR W.toNat D.toNat S (upd (placeN W.toNat S key) (fun _ c => c + y) zs D.toNat) else (CV.no, false)
theorem putR_1 {W D S key y : Int} {zs : List Int} (h : cellsB W D S zs = false) : putR W D S zs key y = (CV.no, false) := by unfold putR; rw [h]; rfl
theorem putR_2 {W D S key y : Int} {zs : List Int} (h : keyB key = false) : putR W D S zs key y = (CV.no, false) := by unfold putR; rw [h, Bool.and_false]; rfl
theorem putR_3 {W D S key y : Int} {zs : List Int} (h : inB (-1000000) y 1000000 = false) : putR W D S zs key y = (CV.no, false) := by unfold putR; rw [h, Bool.and_false]; rfl
theorem putR_y {m d : Nat} {S key y : Int} {zs : List Int} (h : CellsOk m d S zs) (hk : keyB key = true) (hy : inB (-1000000) y 1000000 = true) : putR m d S zs key y = changeR m d S (upd (placeN m S key) (fun _ c => c + y) zs d) := by
  unfold putR
  rw [h.cellsB, hk, hy]
  simp
theorem changeR_le {m d : Nat} {S : Int} {zs rz : List Int} {rW rD rS : Int} {rb : Bool} (h : changeR m d S zs = (⟨rW, rD, rS, rz⟩, rb)) : rz.length ≤ 1048576 := by
  unfold changeR at h
  split at h
  · rename_i hc
    obtain ⟨m', d', h1, h2, ok⟩ := cells_ok hc
    have := ok.le
    simp only [Prod.mk.injEq, CV.mk.injEq] at h
    rw [← h.1.2.2.2]; omega
  · simp only [Prod.mk.injEq, CV.no, CV.mk.injEq] at h
    rw [← h.1.2.2.2]; exact Nat.zero_le _
theorem no_le {rz : List Int} {rW rD rS : Int} {rb : Bool} (h : (CV.no, false) = ((⟨rW, rD, rS, rz⟩ : CV), rb)) : rz.length ≤ 1048576 := by
  simp only [Prod.mk.injEq, CV.no, CV.mk.injEq] at h
  rw [← h.1.2.2.2]; exact Nat.zero_le _
theorem putR_le {W D S key y : Int} {zs rz : List Int} {rW rD rS : Int} {rb : Bool} (h : putR W D S zs key y = (⟨rW, rD, rS, rz⟩, rb)) : rz.length ≤ 1048576 := by
  unfold putR at h
  split at h
  · exact changeR_le h
  · exact no_le h
theorem changeR_no {m d : Nat} {S : Int} {zs : List Int} (h : cellsB m d S zs = false) : changeR m d S zs = (CV.no, false) := by unfold changeR; rw [h]; rfl
theorem changeR_yes {m d : Nat} {S : Int} {zs : List Int} (h : cellsB m d S zs = true) : changeR m d S zs = (⟨m, d, S, zs⟩, true) := by unfold changeR; rw [h, if_pos rfl]
set_option maxHeartbeats 1000000 in
theorem c_change_no (W D S : Int) (a : Option Addr) (n cap : Nat) (zs : List Int) (key : Int) (fv : Value) (w : World) (hv : placesR W D S zs key = ([], false)) (hm : n ≤ maxLen) (h : Reads w a n (ints zs)) :
    Calls Try.prog 70 #[.agg #[.int .i64 W, .int .i64 D, .int .i64 S, .slice a n cap], .int .i64 key, fv] w (RetCB 2 CV.no false w) := by
  have H := Lib.hid h
  have HV := Lib.hid hv
  clear h hv
  go_enter Try.func70, Try.ntmps70
  go_wp2_with fail
  refine (c_impl_PlacesOf W D S _ n cap zs key _ HV.out hm (H.out.on (by (repeat (first | assumption | exact Ext.refl _ | (with_reducible refine Ext.stepS ?_ (by first | exact Nat.le_refl _ | (simp; done) | (simp; omega)) _) | (with_reducible refine Ext.stepN ?_ _) | (with_reducible refine Ext.stepD ?_) | (with_reducible refine Ext.stepA ?_ _)))))).mono ?_; rintro e wa ⟨pa, pc, rfl, o', x'⟩
  have X1 : Ext w wa := ((Ext.refl w).stepA _ |>.stepA _).trans x'
  have BZ1 := Lib.hid ((Box.alloc_at (w.alloc (.cells #[.int .i64 W, .int .i64 D, .int .i64 S, .slice a n cap] 27)) #[.int .i64 0, .int .i64 0, .int .i64 0, .slice none 0 0] 27 (b := w.heap.size + 1) (by simp)).on x')
  obtain ⟨z0, z1, z2, z3⟩ := BZ1.out.four
  obtain ⟨y0, y1, y2, y3⟩ := BZ1.out.free
  clear o' x'
  go_wp2
  refine bodyPost_ret (v := .tuple #[.agg #[.int .i64 0, .int .i64 0, .int .i64 0, .slice none 0 0], .bool false]) (by simp [results, Try.results70, go_sem, z0, z1, z2, z3]) rfl ⟨none, 0, rfl, Own.nil _ _ _ _, ?_⟩
  (repeat (first | assumption | exact Ext.refl _ | (with_reducible refine Ext.stepS ?_ (by first | exact Nat.le_refl _ | (simp; done) | (simp; omega)) _) | (with_reducible refine Ext.stepN ?_ _) | (with_reducible refine Ext.stepD ?_) | (with_reducible refine Ext.stepA ?_ _)))
theorem c_PutCells1 (k x y : Int) (q : Nat) (w : World) (x0 : -1000000000000 ≤ x) (x1 : x ≤ 1000000000000) (y0 : -1000000 ≤ y) (y1 : y ≤ 1000000) (hq : w.cell? ⟨q, 0, none⟩ = some (.int .i64 y)) :
    Calls Try.prog 71 #[.int .i64 k, .int .i64 x, .pointer (some ⟨q, 0, none⟩)] w fun e w' => e = .returned (.int .i64 (x + y)) ∧ Ext w w' := by
  go_enter Try.func71, Try.ntmps71
  go_wp2
  go_ret
  exact ⟨rfl, Ext.refl _⟩
theorem c_impl_isWithin_e (n m : Int) (w : World) {b : Bool} (h0 : 0 ≤ m) (h1 : m ≤ 1000000000000) (h : inB (-m) n m = b) : Calls Try.prog 69 #[.int .i64 n, .int .i64 m] w fun e w' => e = .returned (.bool b) ∧ w = w' :=
  (c_impl_isWithin n m w h0 h1 h).mono (by rintro e w' ⟨rfl, rfl⟩; exact ⟨rfl, rfl⟩)
theorem c_l00In_e (k lo hi : Int) (w : World) {b : Bool} (h : inB lo k hi = b) : Calls Try.prog 65 #[.int .i64 k, .int .i64 lo, .int .i64 hi] w fun e w' => e = .returned (.bool b) ∧ w = w' := by
  subst h; exact c_l00In k lo hi w
set_option maxHeartbeats 2000000 in
theorem c_impl_PutCells (W D S : Int) (a : Option Addr) (n cap : Nat) (zs : List Int) (key y : Int) (w : World) {R : CV} {r : Bool} (hv : putR W D S zs key y = (R, r)) (hm : n ≤ maxLen) (h : Reads w a n (ints zs)) :
    Calls Try.prog 32 #[.agg #[.int .i64 W, .int .i64 D, .int .i64 S, .slice a n cap], .int .i64 key, .int .i64 y] w (RetCB 2 R r w) := by
  have H := Lib.hid h
  have hn := h.int.1
  clear h
  cases hy : inB (-1000000) y 1000000
  · rw [putR_3 hy] at hv
    simp only [Prod.mk.injEq] at hv
    obtain ⟨rfl, rfl⟩ := hv
    have HY := Lib.hid hy
    clear hy hn
    go_enter Try.func32, Try.ntmps32
    go_wp2_with (go_at_call 69; refine (c_impl_isWithin_e y 1000000 _ (by decide) (by decide) HY.out).mono ?_; rintro e w' ⟨rfl, rfl⟩)
    refine bodyPost_ret (v := .tuple #[.agg #[.int .i64 0, .int .i64 0, .int .i64 0, .slice none 0 0], .bool false]) (by simp [results, Try.results32, go_sem]) rfl ⟨none, 0, rfl, Own.nil _ _ _ _, ?_⟩
    (repeat (first | assumption | exact Ext.refl _ | (with_reducible refine Ext.stepS ?_ (by first | exact Nat.le_refl _ | (simp; done) | (simp; omega)) _) | (with_reducible refine Ext.stepN ?_ _) | (with_reducible refine Ext.stepD ?_) | (with_reducible refine Ext.stepA ?_ _)))
  · have HY := Lib.hid hy
    have BZ := Lib.hid (Box.alloc_at ((w.alloc (.cells #[.int .i64 W, .int .i64 D, .int .i64 S, .slice a n cap] 27)).alloc (.cells #[.int .i64 y] 2)) #[.int .i64 0, .int .i64 0, .int .i64 0, .slice none 0 0] 27 (b := w.heap.size + 2) (by simp))
    have BY := Lib.hid ((Box.alloc_at (w.alloc (.cells #[.int .i64 W, .int .i64 D, .int .i64 S, .slice a n cap] 27)) #[.int .i64 y] 2 (b := w.heap.size + 1) (by simp)).past (.cells #[.int .i64 0, .int .i64 0, .int .i64 0, .slice none 0 0] 27))
    by_cases hp : cellsB W D S zs = true ∧ keyB key = true
    · obtain ⟨m, d, rfl, rfl, ok⟩ := cells_ok hp.1
      rw [putR_y ok hp.2 hy] at hv
      obtain ⟨y0, y1⟩ := inB_is.1 hy
      have HV := Lib.hid hv
      have OK := Lib.hid ok
      have HK := Lib.hid hp.2
      subst hn
      clear hv ok hp hy
      go_enter Try.func32, Try.ntmps32
      go_wp2_with (go_at_call 69; refine (c_impl_isWithin_e y 1000000 _ (by decide) (by decide) HY.out).mono ?_; rintro e w' ⟨rfl, rfl⟩)
      refine (c_change_PutCells m d S a zs.length cap zs key (w.heap.size + 1) (fun _ c => c + y) _ OK.out HK.out (H.out.on (by (repeat (first | assumption | exact Ext.refl _ | (with_reducible refine Ext.stepS ?_ (by first | exact Nat.le_refl _ | (simp; done) | (simp; omega)) _) | (with_reducible refine Ext.stepN ?_ _) | (with_reducible refine Ext.stepD ?_) | (with_reducible refine Ext.stepA ?_ _))))) ?hf HV.out).mono ?_
      case hf =>
        intro k u hk hu
        have hb := manyB_at OK.out.many (i := placeN m S key k) (by rw [OK.out.len]; exact placeN_lt S key (by have := OK.out.m2; omega) hk)
        exact c_PutCells1 _ _ _ _ _ hb.1 hb.2 y0 y1 ((BY.out.on hu).cell 0)
      rintro e wa ⟨ra, rc, rfl, o', x'⟩
      have X1 : Ext w wa := Ext.trans (by (repeat (first | assumption | exact Ext.refl _ | (with_reducible refine Ext.stepS ?_ (by first | exact Nat.le_refl _ | (simp; done) | (simp; omega)) _) | (with_reducible refine Ext.stepN ?_ _) | (with_reducible refine Ext.stepD ?_) | (with_reducible refine Ext.stepA ?_ _)))) x'
      have HO := Lib.hid o'
      have HSZ := Lib.hid (show w.heap.size + 3 ≤ wa.heap.size from Nat.le_trans (by first | omega | (simp; done) | (simp; omega)) x'.size)
      have BZ1 := Lib.hid (BZ.out.on x')
      obtain ⟨z0, z1, z2, z3⟩ := BZ1.out.four
      obtain ⟨f0, f1, f2, f3⟩ := BZ1.out.free
      clear o' x'
      go_wp2
      refine bodyPost_ret (v := .tuple #[.agg #[.int .i64 R.W, .int .i64 R.D, .int .i64 R.S, .slice ra R.zs.length rc], .bool r]) (by simp [results, Try.results32, go_sem, z0, z1, z2, z3]) rfl ⟨_, _, rfl, ?_, ?_⟩
      · refine own_touch HO.out (lo' := w.heap.size + 2) (hi' := w.heap.size + 3) ?_ (by first | omega | (simp; done) | (simp; omega)) (by first | omega | (simp; done) | (simp; omega)) (Nat.le_refl _)
        (repeat (first | assumption | exact Touch.refl _ _ _ | (with_reducible refine Touch.stepS ?_ (by first | exact Nat.le_refl _ | (simp; done) | (simp; omega)) (by first | (simp; done) | (simp; omega)) _) | (with_reducible refine Touch.stepN ?_ _) | (with_reducible refine Touch.stepA ?_ _)))
      · (repeat (first | assumption | exact Ext.refl _ | (with_reducible refine Ext.stepS ?_ (by first | exact Nat.le_refl _ | (simp; done) | (simp; omega)) _) | (with_reducible refine Ext.stepN ?_ _) | (with_reducible refine Ext.stepD ?_) | (with_reducible refine Ext.stepA ?_ _)))
    · have hpl : placesR W D S zs key = ([], false) := by
        cases hc : cellsB W D S zs
        · exact placesR_1 hc
        · cases hk : keyB key
          · exact placesR_2 hk
          · exact absurd ⟨hc, hk⟩ hp
      have hvn : putR W D S zs key y = (CV.no, false) := by
        cases hc : cellsB W D S zs
        · exact putR_1 hc
        · cases hk : keyB key
          · exact putR_2 hk
          · exact absurd ⟨hc, hk⟩ hp
      rw [hvn] at hv
      simp only [Prod.mk.injEq] at hv
      obtain ⟨rfl, rfl⟩ := hv
      have HPL := Lib.hid hpl
      clear hpl hvn hp hy hn
      go_enter Try.func32, Try.ntmps32
      go_wp2_with (go_at_call 69; refine (c_impl_isWithin_e y 1000000 _ (by decide) (by decide) HY.out).mono ?_; rintro e w' ⟨rfl, rfl⟩)
      refine (c_change_no W D S a n cap zs key _ _ HPL.out hm (H.out.on (by (repeat (first | assumption | exact Ext.refl _ | (with_reducible refine Ext.stepS ?_ (by first | exact Nat.le_refl _ | (simp; done) | (simp; omega)) _) | (with_reducible refine Ext.stepN ?_ _) | (with_reducible refine Ext.stepD ?_) | (with_reducible refine Ext.stepA ?_ _)))))).mono ?_
      rintro e wa ⟨ra, rc, rfl, o', x'⟩
      have X1 : Ext w wa := Ext.trans (by (repeat (first | assumption | exact Ext.refl _ | (with_reducible refine Ext.stepS ?_ (by first | exact Nat.le_refl _ | (simp; done) | (simp; omega)) _) | (with_reducible refine Ext.stepN ?_ _) | (with_reducible refine Ext.stepD ?_) | (with_reducible refine Ext.stepA ?_ _)))) x'
      have HO := Lib.hid o'
      have HSZ := Lib.hid (show w.heap.size + 3 ≤ wa.heap.size from Nat.le_trans (by first | omega | (simp; done) | (simp; omega)) x'.size)
      have BZ1 := Lib.hid (BZ.out.on x')
      obtain ⟨z0, z1, z2, z3⟩ := BZ1.out.four
      obtain ⟨f0, f1, f2, f3⟩ := BZ1.out.free
      clear o' x'
      go_wp2
      refine bodyPost_ret (v := .tuple #[.agg #[.int .i64 0, .int .i64 0, .int .i64 0, .slice ra CV.no.zs.length rc], .bool false]) (by simp [results, Try.results32, go_sem, z0, z1, z2, z3]; first | done | exact ⟨rfl, rfl, rfl⟩) rfl ⟨_, _, rfl, ?_, ?_⟩
      · refine own_touch HO.out (lo' := w.heap.size + 2) (hi' := w.heap.size + 3) ?_ (by first | omega | (simp; done) | (simp; omega)) (by first | omega | (simp; done) | (simp; omega)) (Nat.le_refl _)
        (repeat (first | assumption | exact Touch.refl _ _ _ | (with_reducible refine Touch.stepS ?_ (by first | exact Nat.le_refl _ | (simp; done) | (simp; omega)) (by first | (simp; done) | (simp; omega)) _) | (with_reducible refine Touch.stepN ?_ _) | (with_reducible refine Touch.stepA ?_ _)))
      · (repeat (first | assumption | exact Ext.refl _ | (with_reducible refine Ext.stepS ?_ (by first | exact Nat.le_refl _ | (simp; done) | (simp; omega)) _) | (with_reducible refine Ext.stepN ?_ _) | (with_reducible refine Ext.stepD ?_) | (with_reducible refine Ext.stepA ?_ _)))
set_option maxHeartbeats 4000000 in
theorem c_spec_PutCells (W D S : Int) (a : Option Addr) (n cap : Nat) (zs : List Int) (key y : Int) (w : World) {R : CV} {r : Bool} (hv : putR W D S zs key y = (R, r)) (hm : n ≤ maxLen) (h : Reads w a n (ints zs)) :
    Calls Try.prog 31 #[.agg #[.int .i64 W, .int .i64 D, .int .i64 S, .slice a n cap], .int .i64 key, .int .i64 y] w (RetCB 2 R r w) := by
  have H := Lib.hid h
  have hn := h.int.1
  have BX := Lib.hid ((Box.alloc w #[.int .i64 W, .int .i64 D, .int .i64 S, .slice a n cap] 27).past (.cells #[.int .i64 0, .int .i64 0, .int .i64 0, .slice none 0 0] 27))
  have BZ := Lib.hid (Box.alloc_at (w.alloc (.cells #[.int .i64 W, .int .i64 D, .int .i64 S, .slice a n cap] 27)) #[.int .i64 0, .int .i64 0, .int .i64 0, .slice none 0 0] 27 (b := w.heap.size + 1) (by simp))
  clear h
  by_cases hp : cellsB W D S zs = true ∧ keyB key = true ∧ inB (-1000000) y 1000000 = true
  · obtain ⟨hc, hk, hy⟩ := hp
    obtain ⟨m, d, rfl, rfl, ok⟩ := cells_ok hc
    rw [putR_y ok hk hy] at hv
    obtain ⟨y0, y1⟩ := inB_is.1 hy
    have HV := Lib.hid hv
    have OK := Lib.hid ok
    have HK := Lib.hid hk
    have HC := Lib.hid hc
    have HY := Lib.hid hy
    subst hn
    have hn4 := ok.le
    have hn0 : 0 < zs.length := by rw [ok.len]; exact Nat.mul_pos (by have := ok.m2; omega) ok.d1
    clear hv ok hk hy hc
    go_enter Try.func31, Try.ntmps31
    go_wp2_with (first | (go_at_call 52; refine (c_spec_l03Is _ m d S a zs.length cap zs _ HC.out BX.out hm (H.out.on (by (repeat (first | assumption | exact Ext.refl _ | (with_reducible refine Ext.stepS ?_ (by first | exact Nat.le_refl _ | (simp; done) | (simp; omega)) _) | (with_reducible refine Ext.stepN ?_ _) | (with_reducible refine Ext.stepD ?_) | (with_reducible refine Ext.stepA ?_ _)))))).mono ?_; rintro e u1 ⟨rfl, q, rfl⟩) | (go_at_call 61; refine (c_spec_l02Key_e key _ HK.out).mono ?_; rintro e w' ⟨rfl, rfl⟩) | (go_at_call 65; refine (c_l00In_e y (-1000000) 1000000 _ HY.out).mono ?_; rintro e w' ⟨rfl, rfl⟩))
    refine (c_spec_l03Own w.heap.size m d S a zs.length cap zs _ hn0 (by omega) (BX.out.on (by (repeat (first | assumption | exact Ext.refl _ | (with_reducible refine Ext.stepS ?_ (by first | exact Nat.le_refl _ | (simp; done) | (simp; omega)) _) | (with_reducible refine Ext.stepN ?_ _) | (with_reducible refine Ext.stepD ?_) | (with_reducible refine Ext.stepA ?_ _))))) (H.out.on (by (repeat (first | assumption | exact Ext.refl _ | (with_reducible refine Ext.stepS ?_ (by first | exact Nat.le_refl _ | (simp; done) | (simp; omega)) _) | (with_reducible refine Ext.stepN ?_ _) | (with_reducible refine Ext.stepD ?_) | (with_reducible refine Ext.stepA ?_ _)))))).mono ?_; rintro e wa ⟨g, c2, f2, rfl, hg, hc2, hrow, x'⟩
    have X1 := Lib.hid (show Ext w wa from Ext.trans (by (repeat (first | assumption | exact Ext.refl _ | (with_reducible refine Ext.stepS ?_ (by first | exact Nat.le_refl _ | (simp; done) | (simp; omega)) _) | (with_reducible refine Ext.stepN ?_ _) | (with_reducible refine Ext.stepD ?_) | (with_reducible refine Ext.stepA ?_ _)))) x')
    have BZ1 := Lib.hid (show Box wa (w.heap.size + 1) 27 _ from Box.on BZ.out (Ext.trans (by (repeat (first | assumption | exact Ext.refl _ | (with_reducible refine Ext.stepS ?_ (by first | exact Nat.le_refl _ | (simp; done) | (simp; omega)) _) | (with_reducible refine Ext.stepN ?_ _) | (with_reducible refine Ext.stepD ?_) | (with_reducible refine Ext.stepA ?_ _)))) x'))
    have HG := Lib.hid (show w.heap.size + 2 ≤ g from Nat.le_trans (by first | omega | (simp; done) | (simp; omega)) hg)
    have HGL := Lib.hid hrow.lt
    have hgl := hrow.lt
    have HRW := Lib.hid (rowIs_on hrow (Ext.alloc wa (.cells #[.int .i64 m, .int .i64 d, .int .i64 S, .slice (some ⟨g, 0, none⟩) zs.length c2] 27)))
    have BO := Lib.hid (Box.alloc wa #[.int .i64 m, .int .i64 d, .int .i64 S, .slice (some ⟨g, 0, none⟩) zs.length c2] 27)
    clear hrow hg x'
    go_wp2_with fail
    refine (c_spec_l03Put wa.heap.size g m d S key y zs.length c2 zs f2 _ OK.out HK.out y0 y1 rfl hc2 (by omega) BO.out HRW.out).mono ?_; rintro e wb ⟨rfl, hrow, ht⟩
    have X2 := Lib.hid (show Ext w wb from Touch.ext (X1.out.stepA _) ht (by have := HG.out; omega))
    have BZ2 := Lib.hid ((BZ1.out.past _).beside ht (by have := HG.out; omega))
    have BO2 := Lib.hid (BO.out.beside ht (by have := HGL.out; omega))
    obtain ⟨NZ, hNZ⟩ : ∃ z, upd (placeN m S key) (fun _ c => c + y) zs d = z := ⟨_, rfl⟩
    rw [hNZ] at hrow
    have hNL : NZ.length = zs.length := by rw [← hNZ, upd_length]
    have HON := Lib.hid (own_rowT (lo := w.heap.size + 2) (by omega) HG.out hrow)
    have HV3 := Lib.hid (show changeR m d S NZ = (R, r) by rw [← hNZ]; exact HV.out)
    rw [hNL] at HON
    obtain ⟨b0, b1, b2, b3⟩ := BO2.out.four
    clear hrow ht hNZ hgl
    cases hcb : cellsB m d S NZ
    · have HCB := Lib.hid hcb
      have hv := HV3.out
      rw [changeR_no hcb] at hv
      simp only [Prod.mk.injEq] at hv
      obtain ⟨rfl, rfl⟩ := hv
      clear hcb hNL
      go_wp2_with fail
      refine (c_spec_l03Give_no m d S _ _ _ NZ _ HCB.out (by unfold maxLen; omega) HON.out.reads).mono ?_; rintro e wz ⟨rfl, xz⟩
      have EZ := X2.out.trans xz
      obtain ⟨z0, z1, z2, z3⟩ := (BZ2.out.on xz).four
      obtain ⟨f0, f1, f2, f3⟩ := (BZ2.out.on xz).free
      clear b0 b1 b2 b3 xz
      go_wp2
      refine bodyPost_ret (v := .tuple #[.agg #[.int .i64 0, .int .i64 0, .int .i64 0, .slice none 0 0], .bool false]) (by simp [results, Try.results31, go_sem, z0, z1, z2, z3]) rfl ⟨none, 0, rfl, Own.nil _ _ _ _, ?_⟩
      (repeat (first | assumption | exact Ext.refl _ | (with_reducible refine Ext.stepS ?_ (by first | exact Nat.le_refl _ | (simp; done) | (simp; omega)) _) | (with_reducible refine Ext.stepN ?_ _) | (with_reducible refine Ext.stepD ?_) | (with_reducible refine Ext.stepA ?_ _)))
    · have HCB := Lib.hid hcb
      have hv := HV3.out
      rw [changeR_yes hcb] at hv
      simp only [Prod.mk.injEq] at hv
      obtain ⟨rfl, rfl⟩ := hv
      have HNL := Lib.hid hNL
      clear hcb hNL
      go_wp2_with fail
      refine (c_spec_l03Give m d S _ _ _ NZ _ HCB.out (by unfold maxLen; omega) HON.out.reads).mono ?_; rintro e wz ⟨rfl, xz⟩
      have EZ := X2.out.trans xz
      have HOZ := Lib.hid (HON.out.on xz)
      have HSW := Lib.hid xz.size
      obtain ⟨z0, z1, z2, z3⟩ := (BZ2.out.on xz).four
      obtain ⟨f0, f1, f2, f3⟩ := (BZ2.out.on xz).free
      clear b0 b1 b2 b3 xz
      go_wp2
      refine bodyPost_ret (v := .tuple #[.agg #[.int .i64 m, .int .i64 d, .int .i64 S, .slice (some ⟨g, 0, none⟩) zs.length c2], .bool true]) (by simp [results, Try.results31, go_sem, z0, z1, z2, z3]) rfl ⟨some ⟨g, 0, none⟩, c2, by rw [HNL.out], ?_, ?_⟩
      · rw [HNL.out]
        refine own_touch HOZ.out (lo' := w.heap.size + 1) (hi' := w.heap.size + 2) ?_ (by first | omega | (simp; done) | (simp; omega)) (by omega) HSW.out
        (repeat (first | assumption | exact Touch.refl _ _ _ | (with_reducible refine Touch.stepS ?_ (by first | exact Nat.le_refl _ | (simp; done) | (simp; omega)) (by first | (simp; done) | (simp; omega)) _) | (with_reducible refine Touch.stepN ?_ _) | (with_reducible refine Touch.stepA ?_ _)))
      · (repeat (first | assumption | exact Ext.refl _ | (with_reducible refine Ext.stepS ?_ (by first | exact Nat.le_refl _ | (simp; done) | (simp; omega)) _) | (with_reducible refine Ext.stepN ?_ _) | (with_reducible refine Ext.stepD ?_) | (with_reducible refine Ext.stepA ?_ _)))
  · cases hc : cellsB W D S zs
    · rw [putR_1 hc] at hv
      simp only [Prod.mk.injEq] at hv
      obtain ⟨rfl, rfl⟩ := hv
      have HC := Lib.hid hc
      clear hc hp hn
      go_enter Try.func31, Try.ntmps31
      go_wp2_with (go_at_call 52; refine (c_spec_l03Is _ W D S a n cap zs _ HC.out BX.out hm (H.out.on (by (repeat (first | assumption | exact Ext.refl _ | (with_reducible refine Ext.stepS ?_ (by first | exact Nat.le_refl _ | (simp; done) | (simp; omega)) _) | (with_reducible refine Ext.stepN ?_ _) | (with_reducible refine Ext.stepD ?_) | (with_reducible refine Ext.stepA ?_ _)))))).mono ?_; rintro e u1 ⟨rfl, q, rfl⟩)
      refine bodyPost_ret (v := .tuple #[.agg #[.int .i64 0, .int .i64 0, .int .i64 0, .slice none 0 0], .bool false]) (by simp [results, Try.results31, go_sem]) rfl ⟨none, 0, rfl, Own.nil _ _ _ _, ?_⟩
      (repeat (first | assumption | exact Ext.refl _ | (with_reducible refine Ext.stepS ?_ (by first | exact Nat.le_refl _ | (simp; done) | (simp; omega)) _) | (with_reducible refine Ext.stepN ?_ _) | (with_reducible refine Ext.stepD ?_) | (with_reducible refine Ext.stepA ?_ _)))
    · cases hk : keyB key
      · rw [putR_2 hk] at hv
        simp only [Prod.mk.injEq] at hv
        obtain ⟨rfl, rfl⟩ := hv
        have HC := Lib.hid hc
        have HK := Lib.hid hk
        clear hc hp hk hn
        go_enter Try.func31, Try.ntmps31
        go_wp2_with (first | (go_at_call 52; refine (c_spec_l03Is _ W D S a n cap zs _ HC.out BX.out hm (H.out.on (by (repeat (first | assumption | exact Ext.refl _ | (with_reducible refine Ext.stepS ?_ (by first | exact Nat.le_refl _ | (simp; done) | (simp; omega)) _) | (with_reducible refine Ext.stepN ?_ _) | (with_reducible refine Ext.stepD ?_) | (with_reducible refine Ext.stepA ?_ _)))))).mono ?_; rintro e u1 ⟨rfl, q, rfl⟩) | (go_at_call 61; refine (c_spec_l02Key_e key _ HK.out).mono ?_; rintro e w' ⟨rfl, rfl⟩))
        refine bodyPost_ret (v := .tuple #[.agg #[.int .i64 0, .int .i64 0, .int .i64 0, .slice none 0 0], .bool false]) (by simp [results, Try.results31, go_sem]) rfl ⟨none, 0, rfl, Own.nil _ _ _ _, ?_⟩
        (repeat (first | assumption | exact Ext.refl _ | (with_reducible refine Ext.stepS ?_ (by first | exact Nat.le_refl _ | (simp; done) | (simp; omega)) _) | (with_reducible refine Ext.stepN ?_ _) | (with_reducible refine Ext.stepD ?_) | (with_reducible refine Ext.stepA ?_ _)))
      · have hy : inB (-1000000) y 1000000 = false := by
          cases h : inB (-1000000) y 1000000
          · rfl
          · exact absurd ⟨hc, hk, h⟩ hp
        rw [putR_3 hy] at hv
        simp only [Prod.mk.injEq] at hv
        obtain ⟨rfl, rfl⟩ := hv
        have HC := Lib.hid hc
        have HK := Lib.hid hk
        have HY := Lib.hid hy
        clear hc hp hk hy hn
        go_enter Try.func31, Try.ntmps31
        go_wp2_with (first | (go_at_call 52; refine (c_spec_l03Is _ W D S a n cap zs _ HC.out BX.out hm (H.out.on (by (repeat (first | assumption | exact Ext.refl _ | (with_reducible refine Ext.stepS ?_ (by first | exact Nat.le_refl _ | (simp; done) | (simp; omega)) _) | (with_reducible refine Ext.stepN ?_ _) | (with_reducible refine Ext.stepD ?_) | (with_reducible refine Ext.stepA ?_ _)))))).mono ?_; rintro e u1 ⟨rfl, q, rfl⟩) | (go_at_call 61; refine (c_spec_l02Key_e key _ HK.out).mono ?_; rintro e w' ⟨rfl, rfl⟩) | (go_at_call 65; refine (c_l00In_e y (-1000000) 1000000 _ HY.out).mono ?_; rintro e w' ⟨rfl, rfl⟩))
        refine bodyPost_ret (v := .tuple #[.agg #[.int .i64 0, .int .i64 0, .int .i64 0, .slice none 0 0], .bool false]) (by simp [results, Try.results31, go_sem]) rfl ⟨none, 0, rfl, Own.nil _ _ _ _, ?_⟩
        (repeat (first | assumption | exact Ext.refl _ | (with_reducible refine Ext.stepS ?_ (by first | exact Nat.le_refl _ | (simp; done) | (simp; omega)) _) | (with_reducible refine Ext.stepN ?_ _) | (with_reducible refine Ext.stepD ?_) | (with_reducible refine Ext.stepA ?_ _)))
end Go.Proofs.Ytjckikcndoobnaa
