/- PutCells: both sides. -/
import Derived.Test.YtmgkbgdbahijnadOwc
namespace Go.Proofs.Ytmgkbgdbahijnad
open Go.ChangeShapes Go.WideShapes Go.ChangeAt Go.RowKit
set_option linter.unusedVariables false
def putR (W D S : Int) (zs : List Int) (key y : Int) : CV × Bool := if cellsB W D S zs && keyB key && inB (-1000000) y 1000000 then changeR W.toNat D.toNat S (upd (placeN W.toNat S key) (fun _ c => c + y) zs D.toNat) else (CV.no, false)
theorem putR_1 {W D S key y : Int} {zs : List Int} (h : cellsB W D S zs = false) : putR W D S zs key y = (CV.no, false) := by unfold putR; rw [h]; rfl
theorem putR_2 {W D S key y : Int} {zs : List Int} (h : keyB key = false) : putR W D S zs key y = (CV.no, false) := by unfold putR; rw [h, Bool.and_false]; rfl
theorem putR_3 {W D S key y : Int} {zs : List Int} (h : inB (-1000000) y 1000000 = false) : putR W D S zs key y = (CV.no, false) := by unfold putR; rw [h, Bool.and_false]; rfl
theorem putR_y {m d : Nat} {S key y : Int} {zs : List Int} (h : CellsOk m d S zs) (hk : keyB key = true) (hy : inB (-1000000) y 1000000 = true) : putR m d S zs key y = changeR m d S (upd (placeN m S key) (fun _ c => c + y) zs d) := by
  unfold putR
  rw [h.cellsB, hk, hy]
  simp
theorem changeR_le {m d : Nat} {S : Int} {zs rz : List Int} {rW rD rS : Int} {rb : Bool} (h : changeR m d S zs = (⟨rW, rD, rS, rz⟩, rb)) : rz.length ≤ 1048576 := by
  unfold changeR at h
  split at h
  · rename_i hc
    obtain ⟨m', d', h1, h2, ok⟩ := cells_ok hc
    have := ok.le
    simp only [Prod.mk.injEq, CV.mk.injEq] at h
    rw [← h.1.2.2.2]; omega
  · simp only [Prod.mk.injEq, CV.no, CV.mk.injEq] at h
    rw [← h.1.2.2.2]; exact Nat.zero_le _
theorem no_le {rz : List Int} {rW rD rS : Int} {rb : Bool} (h : (CV.no, false) = ((⟨rW, rD, rS, rz⟩ : CV), rb)) : rz.length ≤ 1048576 := by
  simp only [Prod.mk.injEq, CV.no, CV.mk.injEq] at h
  rw [← h.1.2.2.2]; exact Nat.zero_le _
theorem putR_le {W D S key y : Int} {zs rz : List Int} {rW rD rS : Int} {rb : Bool} (h : putR W D S zs key y = (⟨rW, rD, rS, rz⟩, rb)) : rz.length ≤ 1048576 := by
  unfold putR at h
  split at h
  · exact changeR_le h
  · exact no_le h
theorem changeR_no {m d : Nat} {S : Int} {zs : List Int} (h : cellsB m d S zs = false) : changeR m d S zs = (CV.no, false) := by unfold changeR; rw [h]; rfl
theorem changeR_yes {m d : Nat} {S : Int} {zs : List Int} (h : cellsB m d S zs = true) : changeR m d S zs = (⟨m, d, S, zs⟩, true) := by unfold changeR; rw [h, if_pos rfl]
set_option maxHeartbeats 1000000 in
theorem c_change_no (W D S : Int) (a : Option Addr) (n cap : Nat) (zs : List Int) (key : Int) (fv : Value) (w : World) (hv : placesR W D S zs key = ([], false)) (hm : n ≤ maxLen) (h : Reads w a n (ints zs)) :
    Calls Try.prog 121 #[.agg #[.int .i64 W, .int .i64 D, .int .i64 S, .slice a n cap], .int .i64 key, fv] w (RetCB 2 CV.no false w) := by
  have H := Lib.hid h
  have HV := Lib.hid hv
  clear h hv
  go_enter Try.func121, Try.ntmps121
  go_wp2_with fail
  refine (c_impl_PlacesOf W D S _ n cap zs key _ HV.out hm (H.out.on (by (repeat (first | assumption | exact Ext.refl _ | (with_reducible refine Ext.stepS ?_ (by first | exact Nat.le_refl _ | (simp; done) | (simp; omega)) _) | (with_reducible refine Ext.stepN ?_ _) | (with_reducible refine Ext.stepD ?_) | (with_reducible refine Ext.stepA ?_ _)))))).mono ?_; rintro e wa ⟨pa, pc, rfl, o', x'⟩
  have X1 : Ext w wa := ((Ext.refl w).stepA _ |>.stepA _).trans x'
  have BZ1 := Lib.hid ((Box.alloc_at (w.alloc (.cells #[.int .i64 W, .int .i64 D, .int .i64 S, .slice a n cap] 65)) #[.int .i64 0, .int .i64 0, .int .i64 0, .slice none 0 0] 65 (b := w.heap.size + 1) (by simp)).on x')
  obtain ⟨z0, z1, z2, z3⟩ := BZ1.out.four
  obtain ⟨y0, y1, y2, y3⟩ := BZ1.out.free
  clear o' x'
  go_wp2
  refine bodyPost_ret (v := .tuple #[.agg #[.int .i64 0, .int .i64 0, .int .i64 0, .slice none 0 0], .bool false]) (by simp [results, Try.results121, go_sem, z0, z1, z2, z3]) rfl ⟨none, 0, rfl, Own.nil _ _ _ _, ?_⟩
  (repeat (first | assumption | exact Ext.refl _ | (with_reducible refine Ext.stepS ?_ (by first | exact Nat.le_refl _ | (simp; done) | (simp; omega)) _) | (with_reducible refine Ext.stepN ?_ _) | (with_reducible refine Ext.stepD ?_) | (with_reducible refine Ext.stepA ?_ _)))
theorem c_PutCells1 (k x y : Int) (q : Nat) (w : World) (x0 : -1000000000000 ≤ x) (x1 : x ≤ 1000000000000) (y0 : -1000000 ≤ y) (y1 : y ≤ 1000000) (hq : w.cell? ⟨q, 0, none⟩ = some (.int .i64 y)) :
    Calls Try.prog 122 #[.int .i64 k, .int .i64 x, .pointer (some ⟨q, 0, none⟩)] w fun e w' => e = .returned (.int .i64 (x + y)) ∧ Ext w w' := by
  go_enter Try.func122, Try.ntmps122
  go_wp2
  go_ret
  exact ⟨rfl, Ext.refl _⟩
theorem c_impl_isWithin_e (n m : Int) (w : World) {b : Bool} (h0 : 0 ≤ m) (h1 : m ≤ 1000000000000) (h : inB (-m) n m = b) : Calls Try.prog 120 #[.int .i64 n, .int .i64 m] w fun e w' => e = .returned (.bool b) ∧ w = w' :=
  (c_impl_isWithin n m w h0 h1 h).mono (by rintro e w' ⟨rfl, rfl⟩; exact ⟨rfl, rfl⟩)
theorem c_l00In_e (k lo hi : Int) (w : World) {b : Bool} (h : inB lo k hi = b) : Calls Try.prog 70 #[.int .i64 k, .int .i64 lo, .int .i64 hi] w fun e w' => e = .returned (.bool b) ∧ w = w' := by
  subst h; exact c_l00In k lo hi w
set_option maxHeartbeats 2000000 in
theorem c_impl_PutCells (W D S : Int) (a : Option Addr) (n cap : Nat) (zs : List Int) (key y : Int) (w : World) {R : CV} {r : Bool} (hv : putR W D S zs key y = (R, r)) (hm : n ≤ maxLen) (h : Reads w a n (ints zs)) :
    Calls Try.prog 92 #[.agg #[.int .i64 W, .int .i64 D, .int .i64 S, .slice a n cap], .int .i64 key, .int .i64 y] w (RetCB 2 R r w) := by
  have H := Lib.hid h
  have hn := h.int.1
  clear h
  cases hy : inB (-1000000) y 1000000
  · rw [putR_3 hy] at hv
    simp only [Prod.mk.injEq] at hv
    obtain ⟨rfl, rfl⟩ := hv
    have HY := Lib.hid hy
    clear hy hn
    go_enter Try.func92, Try.ntmps92
    go_wp2_with (go_at_call 120; refine (c_impl_isWithin_e y 1000000 _ (by decide) (by decide) HY.out).mono ?_; rintro e w' ⟨rfl, rfl⟩)
    refine bodyPost_ret (v := .tuple #[.agg #[.int .i64 0, .int .i64 0, .int .i64 0, .slice none 0 0], .bool false]) (by simp [results, Try.results92, go_sem]) rfl ⟨none, 0, rfl, Own.nil _ _ _ _, ?_⟩
    (repeat (first | assumption | exact Ext.refl _ | (with_reducible refine Ext.stepS ?_ (by first | exact Nat.le_refl _ | (simp; done) | (simp; omega)) _) | (with_reducible refine Ext.stepN ?_ _) | (with_reducible refine Ext.stepD ?_) | (with_reducible refine Ext.stepA ?_ _)))
  · have HY := Lib.hid hy
    have BZ := Lib.hid (Box.alloc_at ((w.alloc (.cells #[.int .i64 W, .int .i64 D, .int .i64 S, .slice a n cap] 65)).alloc (.cells #[.int .i64 y] 2)) #[.int .i64 0, .int .i64 0, .int .i64 0, .slice none 0 0] 65 (b := w.heap.size + 2) (by simp))
    have BY := Lib.hid ((Box.alloc_at (w.alloc (.cells #[.int .i64 W, .int .i64 D, .int .i64 S, .slice a n cap] 65)) #[.int .i64 y] 2 (b := w.heap.size + 1) (by simp)).past (.cells #[.int .i64 0, .int .i64 0, .int .i64 0, .slice none 0 0] 65))
    by_cases hp : cellsB W D S zs = true ∧ keyB key = true
    · obtain ⟨m, d, rfl, rfl, ok⟩ := cells_ok hp.1
      rw [putR_y ok hp.2 hy] at hv
      obtain ⟨y0, y1⟩ := inB_is.1 hy
      have HV := Lib.hid hv
      have OK := Lib.hid ok
      have HK := Lib.hid hp.2
      subst hn
      clear hv ok hp hy
      go_enter Try.func92, Try.ntmps92
      go_wp2_with (go_at_call 120; refine (c_impl_isWithin_e y 1000000 _ (by decide) (by decide) HY.out).mono ?_; rintro e w' ⟨rfl, rfl⟩)
      refine (c_change_PutCells m d S a zs.length cap zs key (w.heap.size + 1) (fun _ c => c + y) _ OK.out HK.out (H.out.on (by (repeat (first | assumption | exact Ext.refl _ | (with_reducible refine Ext.stepS ?_ (by first | exact Nat.le_refl _ | (simp; done) | (simp; omega)) _) | (with_reducible refine Ext.stepN ?_ _) | (with_reducible refine Ext.stepD ?_) | (with_reducible refine Ext.stepA ?_ _))))) ?hf HV.out).mono ?_
      case hf =>
        intro k u hk hu
        have hb := manyB_at OK.out.many (i := placeN m S key k) (by rw [OK.out.len]; exact placeN_lt S key (by have := OK.out.m2; omega) hk)
        exact c_PutCells1 _ _ _ _ _ hb.1 hb.2 y0 y1 ((BY.out.on hu).cell 0)
      rintro e wa ⟨ra, rc, rfl, o', x'⟩
      have X1 : Ext w wa := Ext.trans (by (repeat (first | assumption | exact Ext.refl _ | (with_reducible refine Ext.stepS ?_ (by first | exact Nat.le_refl _ | (simp; done) | (simp; omega)) _) | (with_reducible refine Ext.stepN ?_ _) | (with_reducible refine Ext.stepD ?_) | (with_reducible refine Ext.stepA ?_ _)))) x'
      have HO := Lib.hid o'
      have HSZ := Lib.hid (show w.heap.size + 3 ≤ wa.heap.size from Nat.le_trans (by first | omega | (simp; done) | (simp; omega)) x'.size)
      have BZ1 := Lib.hid (BZ.out.on x')
      obtain ⟨z0, z1, z2, z3⟩ := BZ1.out.four
      obtain ⟨f0, f1, f2, f3⟩ := BZ1.out.free
      clear o' x'
      go_wp2
      refine bodyPost_ret (v := .tuple #[.agg #[.int .i64 R.W, .int .i64 R.D, .int .i64 R.S, .slice ra R.zs.length rc], .bool r]) (by simp [results, Try.results92, go_sem, z0, z1, z2, z3]) rfl ⟨_, _, rfl, ?_, ?_⟩
      · refine own_touch HO.out (lo' := w.heap.size + 2) (hi' := w.heap.size + 3) ?_ (by first | omega | (simp; done) | (simp; omega)) (by first | omega | (simp; done) | (simp; omega)) (Nat.le_refl _)
        (repeat (first | assumption | exact Touch.refl _ _ _ | (with_reducible refine Touch.stepS ?_ (by first | exact Nat.le_refl _ | (simp; done) | (simp; omega)) (by first | (simp; done) | (simp; omega)) _) | (with_reducible refine Touch.stepN ?_ _) | (with_reducible refine Touch.stepA ?_ _)))
      · (repeat (first | assumption | exact Ext.refl _ | (with_reducible refine Ext.stepS ?_ (by first | exact Nat.le_refl _ | (simp; done) | (simp; omega)) _) | (with_reducible refine Ext.stepN ?_ _) | (with_reducible refine Ext.stepD ?_) | (with_reducible refine Ext.stepA ?_ _)))
    · have hpl : placesR W D S zs key = ([], false) := by
        cases hc : cellsB W D S zs
        · exact placesR_1 hc
        · cases hk : keyB key
          · exact placesR_2 hk
          · exact absurd ⟨hc, hk⟩ hp
      have hvn : putR W D S zs key y = (CV.no, false) := by
        cases hc : cellsB W D S zs
        · exact putR_1 hc
        · cases hk : keyB key
          · exact putR_2 hk
          · exact absurd ⟨hc, hk⟩ hp
      rw [hvn] at hv
      simp only [Prod.mk.injEq] at hv
      obtain ⟨rfl, rfl⟩ := hv
      have HPL := Lib.hid hpl
      clear hpl hvn hp hy hn
      go_enter Try.func92, Try.ntmps92
      go_wp2_with (go_at_call 120; refine (c_impl_isWithin_e y 1000000 _ (by decide) (by decide) HY.out).mono ?_; rintro e w' ⟨rfl, rfl⟩)
      refine (c_change_no W D S a n cap zs key _ _ HPL.out hm (H.out.on (by (repeat (first | assumption | exact Ext.refl _ | (with_reducible refine Ext.stepS ?_ (by first | exact Nat.le_refl _ | (simp; done) | (simp; omega)) _) | (with_reducible refine Ext.stepN ?_ _) | (with_reducible refine Ext.stepD ?_) | (with_reducible refine Ext.stepA ?_ _)))))).mono ?_
      rintro e wa ⟨ra, rc, rfl, o', x'⟩
      have X1 : Ext w wa := Ext.trans (by (repeat (first | assumption | exact Ext.refl _ | (with_reducible refine Ext.stepS ?_ (by first | exact Nat.le_refl _ | (simp; done) | (simp; omega)) _) | (with_reducible refine Ext.stepN ?_ _) | (with_reducible refine Ext.stepD ?_) | (with_reducible refine Ext.stepA ?_ _)))) x'
      have HO := Lib.hid o'
      have HSZ := Lib.hid (show w.heap.size + 3 ≤ wa.heap.size from Nat.le_trans (by first | omega | (simp; done) | (simp; omega)) x'.size)
      have BZ1 := Lib.hid (BZ.out.on x')
      obtain ⟨z0, z1, z2, z3⟩ := BZ1.out.four
      obtain ⟨f0, f1, f2, f3⟩ := BZ1.out.free
      clear o' x'
      go_wp2
      refine bodyPost_ret (v := .tuple #[.agg #[.int .i64 0, .int .i64 0, .int .i64 0, .slice ra CV.no.zs.length rc], .bool false]) (by simp [results, Try.results92, go_sem, z0, z1, z2, z3]; first | done | exact ⟨rfl, rfl, rfl⟩) rfl ⟨_, _, rfl, ?_, ?_⟩
      · refine own_touch HO.out (lo' := w.heap.size + 2) (hi' := w.heap.size + 3) ?_ (by first | omega | (simp; done) | (simp; omega)) (by first | omega | (simp; done) | (simp; omega)) (Nat.le_refl _)
        (repeat (first | assumption | exact Touch.refl _ _ _ | (with_reducible refine Touch.stepS ?_ (by first | exact Nat.le_refl _ | (simp; done) | (simp; omega)) (by first | (simp; done) | (simp; omega)) _) | (with_reducible refine Touch.stepN ?_ _) | (with_reducible refine Touch.stepA ?_ _)))
      · (repeat (first | assumption | exact Ext.refl _ | (with_reducible refine Ext.stepS ?_ (by first | exact Nat.le_refl _ | (simp; done) | (simp; omega)) _) | (with_reducible refine Ext.stepN ?_ _) | (with_reducible refine Ext.stepD ?_) | (with_reducible refine Ext.stepA ?_ _)))
end Go.Proofs.Ytmgkbgdbahijnad
