/- PutCareful: both sides. -/
import Derived.Test.YtjckikcndoobnaaChd
import Derived.Test.YtjckikcndoobnaaCau
import Derived.Test.YtjckikcndoobnaaTot
namespace Go.Proofs.Ytjckikcndoobnaa
open Go.ChangeShapes Go.WideShapes Go.ChangeAt Go.RowKit
set_option linter.unusedVariables false
def leastZ (m d : Nat) (S : Int) (zs : List Int) (key : Int) : Int := minL (fun i => zs[placeN m S key i]?.getD 0) (d - 1)
def carR (W D S : Int) (zs : List Int) (key y : Int) : CV × Bool := if cellsB W D S zs && keyB key && inB 0 y 1000000 then changeR W.toNat D.toNat S (upd (placeN W.toNat S key) (fun _ c => max c (leastZ W.toNat D.toNat S zs key + y)) zs D.toNat) else (CV.no, false)
theorem carR_12 {W D S key y : Int} {zs : List Int} (h : (cellsB W D S zs && keyB key) = false) : carR W D S zs key y = (CV.no, false) := by unfold carR; rw [h]; rfl
theorem carR_3 {W D S key y : Int} {zs : List Int} (h : inB 0 y 1000000 = false) : carR W D S zs key y = (CV.no, false) := by unfold carR; rw [h, Bool.and_false]; rfl
theorem carR_y {m d : Nat} {S key y : Int} {zs : List Int} (h : CellsOk m d S zs) (hk : keyB key = true) (hy : inB 0 y 1000000 = true) : carR m d S zs key y = changeR m d S (upd (placeN m S key) (fun _ c => max c (leastZ m d S zs key + y)) zs d) := by
  unfold carR
  rw [h.cellsB, hk, hy]
  simp
theorem carR_le {W D S key y : Int} {zs rz : List Int} {rW rD rS : Int} {rb : Bool} (h : carR W D S zs key y = (⟨rW, rD, rS, rz⟩, rb)) : rz.length ≤ 1048576 := by
  unfold carR at h
  split at h
  · exact changeR_le h
  · exact no_le h
theorem minL_bd {f : Nat → Int} {lo hi : Int} : ∀ (n : Nat), (∀ i, i ≤ n → lo ≤ f i ∧ f i ≤ hi) → lo ≤ minL f n ∧ minL f n ≤ hi
  | 0, h => h 0 (Nat.le_refl _)
  | n + 1, h => by
    have h1 := minL_bd n (fun i hi => h i (by omega))
    have h2 := h (n + 1) (Nat.le_refl _)
    show lo ≤ min (minL f n) (f (n + 1)) ∧ min (minL f n) (f (n + 1)) ≤ hi
    omega
theorem CellsOk.at' {m d : Nat} {S : Int} {zs : List Int} (h : CellsOk m d S zs) (key : Int) {k : Nat} (hk : k < d) : -1000000000000 ≤ zs[placeN m S key k]?.getD 0 ∧ zs[placeN m S key k]?.getD 0 ≤ 1000000000000 :=
  manyB_at h.many (by rw [h.len]; exact placeN_lt S key (by have := h.m2; omega) hk)
theorem least_bd {m d : Nat} {S : Int} {zs : List Int} (h : CellsOk m d S zs) (key : Int) : -1000000000000 ≤ leastZ m d S zs key ∧ leastZ m d S zs key ≤ 1000000000000 :=
  minL_bd _ fun i hi => h.at' key (by have := h.d1; omega)
theorem c_PutCareful1 (k x l y : Int) (q1 q2 : Nat) (w : World) (l0 : -1000000000000 ≤ l) (l1 : l ≤ 1000000000000) (y0 : 0 ≤ y) (y1 : y ≤ 1000000) (hq : w.cell? ⟨q1, 0, none⟩ = some (.int .i64 l)) (hq2 : w.cell? ⟨q2, 0, none⟩ = some (.int .i64 y)) :
    Calls Try.prog 74 #[.int .i64 k, .int .i64 x, .pointer (some ⟨q1, 0, none⟩), .pointer (some ⟨q2, 0, none⟩)] w fun e w' => e = .returned (.int .i64 (max x (l + y))) ∧ Ext w w' := by
  go_enter Try.func74, Try.ntmps74
  go_wp2
  all_goals (go_ret; exact ⟨by first | rfl | exact ret_i (by omega), Ext.refl _⟩)
set_option maxHeartbeats 2000000 in
theorem c_impl_PutCareful (W D S : Int) (a : Option Addr) (n cap : Nat) (zs : List Int) (key y : Int) (w : World) {R : CV} {r : Bool} (hv : carR W D S zs key y = (R, r)) (hm : n ≤ maxLen) (h : Reads w a n (ints zs)) :
    Calls Try.prog 34 #[.agg #[.int .i64 W, .int .i64 D, .int .i64 S, .slice a n cap], .int .i64 key, .int .i64 y] w (RetCB 2 R r w) := by
  have H := Lib.hid h
  have hn := h.int.1
  clear h
  have BX := Lib.hid (((Box.alloc w #[.int .i64 W, .int .i64 D, .int .i64 S, .slice a n cap] 27).past (.cells #[.int .i64 y] 2)).past (.cells #[.int .i64 0, .int .i64 0, .int .i64 0, .slice none 0 0] 27))
  have BZ := Lib.hid (Box.alloc_at ((w.alloc (.cells #[.int .i64 W, .int .i64 D, .int .i64 S, .slice a n cap] 27)).alloc (.cells #[.int .i64 y] 2)) #[.int .i64 0, .int .i64 0, .int .i64 0, .slice none 0 0] 27 (b := w.heap.size + 2) (by simp))
  have BY := Lib.hid ((Box.alloc_at (w.alloc (.cells #[.int .i64 W, .int .i64 D, .int .i64 S, .slice a n cap] 27)) #[.int .i64 y] 2 (b := w.heap.size + 1) (by simp)).past (.cells #[.int .i64 0, .int .i64 0, .int .i64 0, .slice none 0 0] 27))
  by_cases hp : cellsB W D S zs = true ∧ keyB key = true
  · obtain ⟨m, d, rfl, rfl, ok⟩ := cells_ok hp.1
    have HAT := Lib.hid (show atR m d S zs key = (leastZ m d S zs key, true) from atR_y ok hp.2)
    have hlb := least_bd ok key
    cases hy : inB 0 y 1000000
    · rw [carR_3 hy] at hv
      simp only [Prod.mk.injEq] at hv
      obtain ⟨rfl, rfl⟩ := hv
      by_cases hy0 : y < 0
      · clear hy hn ok hp hlb
        go_enter Try.func34, Try.ntmps34
        go_wp2_with fail
        refine (c_impl_CellsAt m d S a n cap zs key _ HAT.out hm (H.out.on (by (repeat (first | assumption | exact Ext.refl _ | (with_reducible refine Ext.stepS ?_ (by first | exact Nat.le_refl _ | (simp; done) | (simp; omega)) _) | (with_reducible refine Ext.stepN ?_ _) | (with_reducible refine Ext.stepD ?_) | (with_reducible refine Ext.stepA ?_ _)))))).mono ?_; rintro e wa ⟨rfl, x'⟩
        have X1 : Ext w wa := Ext.trans (by (repeat (first | assumption | exact Ext.refl _ | (with_reducible refine Ext.stepS ?_ (by first | exact Nat.le_refl _ | (simp; done) | (simp; omega)) _) | (with_reducible refine Ext.stepN ?_ _) | (with_reducible refine Ext.stepD ?_) | (with_reducible refine Ext.stepA ?_ _)))) x'
        have X1L := X1.stepA (.cells #[.int .i64 (leastZ m d S zs key)] 2)
        have cy := (((BY.out.on x').past (.cells #[.int .i64 (leastZ m d S zs key)] 2)).cell 0)
        simp only [List.getElem?_toArray, List.getElem?_cons_zero] at cy
        obtain ⟨z0, z1, z2, z3⟩ := ((BZ.out.on x').past (.cells #[.int .i64 (leastZ m d S zs key)] 2)).four
        obtain ⟨f0, f1, f2, f3⟩ := ((BZ.out.on x').past (.cells #[.int .i64 (leastZ m d S zs key)] 2)).free
        clear x'
        go_wp2
        refine bodyPost_ret (v := .tuple #[.agg #[.int .i64 0, .int .i64 0, .int .i64 0, .slice none 0 0], .bool false]) (by simp [results, Try.results34, go_sem, z0, z1, z2, z3]) rfl ⟨none, 0, rfl, Own.nil _ _ _ _, ?_⟩
        (repeat (first | assumption | exact Ext.refl _ | (with_reducible refine Ext.stepS ?_ (by first | exact Nat.le_refl _ | (simp; done) | (simp; omega)) _) | (with_reducible refine Ext.stepN ?_ _) | (with_reducible refine Ext.stepD ?_) | (with_reducible refine Ext.stepA ?_ _)))
      · have hy1 : 1000000 < y := by
          by_cases e : 1000000 < y
          · exact e
          · rw [inB_is.2 (by omega)] at hy; cases hy
        have hy2 : 0 ≤ y := by omega
        clear hy hn ok hp hlb hy0
        go_enter Try.func34, Try.ntmps34
        go_wp2_with fail
        refine (c_impl_CellsAt m d S a n cap zs key _ HAT.out hm (H.out.on (by (repeat (first | assumption | exact Ext.refl _ | (with_reducible refine Ext.stepS ?_ (by first | exact Nat.le_refl _ | (simp; done) | (simp; omega)) _) | (with_reducible refine Ext.stepN ?_ _) | (with_reducible refine Ext.stepD ?_) | (with_reducible refine Ext.stepA ?_ _)))))).mono ?_; rintro e wa ⟨rfl, x'⟩
        have X1 : Ext w wa := Ext.trans (by (repeat (first | assumption | exact Ext.refl _ | (with_reducible refine Ext.stepS ?_ (by first | exact Nat.le_refl _ | (simp; done) | (simp; omega)) _) | (with_reducible refine Ext.stepN ?_ _) | (with_reducible refine Ext.stepD ?_) | (with_reducible refine Ext.stepA ?_ _)))) x'
        have X1L := X1.stepA (.cells #[.int .i64 (leastZ m d S zs key)] 2)
        have cy := (((BY.out.on x').past (.cells #[.int .i64 (leastZ m d S zs key)] 2)).cell 0)
        simp only [List.getElem?_toArray, List.getElem?_cons_zero] at cy
        obtain ⟨z0, z1, z2, z3⟩ := ((BZ.out.on x').past (.cells #[.int .i64 (leastZ m d S zs key)] 2)).four
        obtain ⟨f0, f1, f2, f3⟩ := ((BZ.out.on x').past (.cells #[.int .i64 (leastZ m d S zs key)] 2)).free
        clear x'
        go_wp2
        refine bodyPost_ret (v := .tuple #[.agg #[.int .i64 0, .int .i64 0, .int .i64 0, .slice none 0 0], .bool false]) (by simp [results, Try.results34, go_sem, z0, z1, z2, z3]) rfl ⟨none, 0, rfl, Own.nil _ _ _ _, ?_⟩
        (repeat (first | assumption | exact Ext.refl _ | (with_reducible refine Ext.stepS ?_ (by first | exact Nat.le_refl _ | (simp; done) | (simp; omega)) _) | (with_reducible refine Ext.stepN ?_ _) | (with_reducible refine Ext.stepD ?_) | (with_reducible refine Ext.stepA ?_ _)))
    · rw [carR_y ok hp.2 hy] at hv
      obtain ⟨y0, y1⟩ := inB_is.1 hy
      have HV := Lib.hid hv
      have OK := Lib.hid ok
      have HK := Lib.hid hp.2
      have HLB := Lib.hid hlb
      subst hn
      obtain ⟨l, hl⟩ : ∃ l, leastZ m d S zs key = l := ⟨_, rfl⟩
      rw [hl] at HV HAT HLB
      clear hv ok hp hy hlb hl
      go_enter Try.func34, Try.ntmps34
      go_wp2_with fail
      refine (c_impl_CellsAt m d S a zs.length cap zs key _ HAT.out hm (H.out.on (by (repeat (first | assumption | exact Ext.refl _ | (with_reducible refine Ext.stepS ?_ (by first | exact Nat.le_refl _ | (simp; done) | (simp; omega)) _) | (with_reducible refine Ext.stepN ?_ _) | (with_reducible refine Ext.stepD ?_) | (with_reducible refine Ext.stepA ?_ _)))))).mono ?_; rintro e wa ⟨rfl, x'⟩
      have X1 := Lib.hid (show Ext w wa from Ext.trans (by (repeat (first | assumption | exact Ext.refl _ | (with_reducible refine Ext.stepS ?_ (by first | exact Nat.le_refl _ | (simp; done) | (simp; omega)) _) | (with_reducible refine Ext.stepN ?_ _) | (with_reducible refine Ext.stepD ?_) | (with_reducible refine Ext.stepA ?_ _)))) x')
      have HSZ := Lib.hid (show w.heap.size + 3 ≤ wa.heap.size from (BZ.out.on x').lt)
      have BL := Lib.hid (Box.alloc wa #[.int .i64 l] 2)
      have BYL := Lib.hid ((BY.out.on x').past (.cells #[.int .i64 l] 2))
      have BZL := Lib.hid ((BZ.out.on x').past (.cells #[.int .i64 l] 2))
      have cy := BYL.out.cell 0
      simp only [List.getElem?_toArray, List.getElem?_cons_zero] at cy
      obtain ⟨b0, b1, b2, b3⟩ := ((BX.out.on x').past (.cells #[.int .i64 l] 2)).four
      clear x'
      go_wp2_with fail
      refine (c_change_PutCareful m d S a zs.length cap zs key wa.heap.size (w.heap.size + 1) (fun _ c => max c (l + y)) _ OK.out HK.out (H.out.on (X1.out.stepA _)) ?hf HV.out).mono ?_
      case hf =>
        intro k u hk hu
        exact c_PutCareful1 _ _ _ _ _ _ _ HLB.out.1 HLB.out.2 y0 y1 ((BL.out.on hu).cell 0) ((BYL.out.on hu).cell 0)
      rintro e wb ⟨ra, rc, rfl, o', x'⟩
      have X2 : Ext w wb := Ext.trans (X1.out.stepA _) x'
      have HO := Lib.hid o'
      obtain ⟨z0, z1, z2, z3⟩ := (BZL.out.on x').four
      obtain ⟨f0, f1, f2, f3⟩ := (BZL.out.on x').free
      clear o' x' cy b0 b1 b2 b3
      go_wp2
      refine bodyPost_ret (v := .tuple #[.agg #[.int .i64 R.W, .int .i64 R.D, .int .i64 R.S, .slice ra R.zs.length rc], .bool r]) (by simp [results, Try.results34, go_sem, z0, z1, z2, z3]) rfl ⟨_, _, rfl, ?_, ?_⟩
      · refine own_touch HO.out (lo' := w.heap.size + 2) (hi' := w.heap.size + 3) ?_ (by have := HSZ.out; simp; omega) (by have := HSZ.out; simp; omega) (Nat.le_refl _)
        (repeat (first | assumption | exact Touch.refl _ _ _ | (with_reducible refine Touch.stepS ?_ (by first | exact Nat.le_refl _ | (simp; done) | (simp; omega)) (by first | (simp; done) | (simp; omega)) _) | (with_reducible refine Touch.stepN ?_ _) | (with_reducible refine Touch.stepA ?_ _)))
      · (repeat (first | assumption | exact Ext.refl _ | (with_reducible refine Ext.stepS ?_ (by first | exact Nat.le_refl _ | (simp; done) | (simp; omega)) _) | (with_reducible refine Ext.stepN ?_ _) | (with_reducible refine Ext.stepD ?_) | (with_reducible refine Ext.stepA ?_ _)))
  · rw [carR_12 (both_no hp)] at hv
    simp only [Prod.mk.injEq] at hv
    obtain ⟨rfl, rfl⟩ := hv
    have HAT := Lib.hid (atR_no (both_no hp))
    clear hp hn
    go_enter Try.func34, Try.ntmps34
    go_wp2_with fail
    refine (c_impl_CellsAt W D S a n cap zs key _ HAT.out hm (H.out.on (by (repeat (first | assumption | exact Ext.refl _ | (with_reducible refine Ext.stepS ?_ (by first | exact Nat.le_refl _ | (simp; done) | (simp; omega)) _) | (with_reducible refine Ext.stepN ?_ _) | (with_reducible refine Ext.stepD ?_) | (with_reducible refine Ext.stepA ?_ _)))))).mono ?_; rintro e wa ⟨rfl, x'⟩
    have X1 : Ext w wa := Ext.trans (by (repeat (first | assumption | exact Ext.refl _ | (with_reducible refine Ext.stepS ?_ (by first | exact Nat.le_refl _ | (simp; done) | (simp; omega)) _) | (with_reducible refine Ext.stepN ?_ _) | (with_reducible refine Ext.stepD ?_) | (with_reducible refine Ext.stepA ?_ _)))) x'
    have X1L := X1.stepA (.cells #[.int .i64 0] 2)
    obtain ⟨z0, z1, z2, z3⟩ := ((BZ.out.on x').past (.cells #[.int .i64 0] 2)).four
    obtain ⟨f0, f1, f2, f3⟩ := ((BZ.out.on x').past (.cells #[.int .i64 0] 2)).free
    clear x'
    go_wp2
    refine bodyPost_ret (v := .tuple #[.agg #[.int .i64 0, .int .i64 0, .int .i64 0, .slice none 0 0], .bool false]) (by simp [results, Try.results34, go_sem, z0, z1, z2, z3]) rfl ⟨none, 0, rfl, Own.nil _ _ _ _, ?_⟩
    (repeat (first | assumption | exact Ext.refl _ | (with_reducible refine Ext.stepS ?_ (by first | exact Nat.le_refl _ | (simp; done) | (simp; omega)) _) | (with_reducible refine Ext.stepN ?_ _) | (with_reducible refine Ext.stepD ?_) | (with_reducible refine Ext.stepA ?_ _)))
theorem c_spec_l00Max (x y z : Int) (w : World) (h : max x y = z) : Calls Try.prog 73 #[.int .i64 x, .int .i64 y] w fun e w' => e = .returned (.int .i64 z) ∧ w = w' := by
  by_cases hl : y < x
  · have H := Lib.hid (show x = z by omega)
    clear h
    go_enter Try.func73, Try.ntmps73
    go_wp2
    go_ret
    exact ⟨by rw [← H.out]; rfl, rfl⟩
  · have H := Lib.hid (show y = z by omega)
    clear h
    go_enter Try.func73, Try.ntmps73
    go_wp2
    go_ret
    exact ⟨by rw [← H.out]; rfl, rfl⟩
set_option maxHeartbeats 4000000 in
theorem c_spec_PutCareful (W D S : Int) (a : Option Addr) (n cap : Nat) (zs : List Int) (key y : Int) (w : World) {R : CV} {r : Bool} (hv : carR W D S zs key y = (R, r)) (hm : n ≤ maxLen) (h : Reads w a n (ints zs)) :
    Calls Try.prog 33 #[.agg #[.int .i64 W, .int .i64 D, .int .i64 S, .slice a n cap], .int .i64 key, .int .i64 y] w (RetCB 2 R r w) := by
  have H := Lib.hid h
  have hn := h.int.1
  have BX := Lib.hid ((Box.alloc w #[.int .i64 W, .int .i64 D, .int .i64 S, .slice a n cap] 27).past (.cells #[.int .i64 0, .int .i64 0, .int .i64 0, .slice none 0 0] 27))
  have BZ := Lib.hid (Box.alloc_at (w.alloc (.cells #[.int .i64 W, .int .i64 D, .int .i64 S, .slice a n cap] 27)) #[.int .i64 0, .int .i64 0, .int .i64 0, .slice none 0 0] 27 (b := w.heap.size + 1) (by simp))
  clear h
  by_cases hp : cellsB W D S zs = true ∧ keyB key = true ∧ inB 0 y 1000000 = true
  · obtain ⟨hc, hk, hy⟩ := hp
    obtain ⟨m, d, rfl, rfl, ok⟩ := cells_ok hc
    rw [carR_y ok hk hy] at hv
    obtain ⟨y0, y1⟩ := inB_is.1 hy
    have HV := Lib.hid hv
    have OK := Lib.hid ok
    have HK := Lib.hid hk
    have HC := Lib.hid hc
    have HY := Lib.hid hy
    have hlb := least_bd ok key
    subst hn
    have hn4 := ok.le
    have hd6 := ok.d6
    have hn0 : 0 < zs.length := by rw [ok.len]; exact Nat.mul_pos (by have := ok.m2; omega) ok.d1
    have HAT := Lib.hid (show minL (fun i => zs[placeN m S key i]?.getD 0) (d - 1) = leastZ m d S zs key from rfl)
    obtain ⟨l, hl⟩ : ∃ l, leastZ m d S zs key = l := ⟨_, rfl⟩
    rw [hl] at HV HAT hlb
    obtain ⟨l0, l1⟩ := hlb
    have hw1 : IntKind.i64.wrap (l + y) = l + y := wrap_mid (by omega) (by omega)
    clear hv ok hk hy hc hl
    go_enter Try.func33, Try.ntmps33
    go_wp2_with (first | (go_at_call 52; refine (c_spec_l03Is _ m d S a zs.length cap zs _ HC.out BX.out hm (H.out.on (by (repeat (first | assumption | exact Ext.refl _ | (with_reducible refine Ext.stepS ?_ (by first | exact Nat.le_refl _ | (simp; done) | (simp; omega)) _) | (with_reducible refine Ext.stepN ?_ _) | (with_reducible refine Ext.stepD ?_) | (with_reducible refine Ext.stepA ?_ _)))))).mono ?_; rintro e u1 ⟨rfl, q, rfl⟩) | (go_at_call 61; refine (c_spec_l02Key_e key _ HK.out).mono ?_; rintro e w' ⟨rfl, rfl⟩) | (go_at_call 65; refine (c_l00In_e y 0 1000000 _ HY.out).mono ?_; rintro e w' ⟨rfl, rfl⟩))
    refine (c_spec_l03At w.heap.size m d S key a zs.length cap zs _ OK.out HK.out (BX.out.on (by (repeat (first | assumption | exact Ext.refl _ | (with_reducible refine Ext.stepS ?_ (by first | exact Nat.le_refl _ | (simp; done) | (simp; omega)) _) | (with_reducible refine Ext.stepN ?_ _) | (with_reducible refine Ext.stepD ?_) | (with_reducible refine Ext.stepA ?_ _))))) (H.out.on (by (repeat (first | assumption | exact Ext.refl _ | (with_reducible refine Ext.stepS ?_ (by first | exact Nat.le_refl _ | (simp; done) | (simp; omega)) _) | (with_reducible refine Ext.stepN ?_ _) | (with_reducible refine Ext.stepD ?_) | (with_reducible refine Ext.stepA ?_ _)))))).mono ?_; rw [HAT.out]; rintro e u2 ⟨rfl, q2, rfl⟩
    go_wp2_with fail
    refine (c_spec_l03Own w.heap.size m d S a zs.length cap zs _ hn0 (by omega) (BX.out.on (by (repeat (first | assumption | exact Ext.refl _ | (with_reducible refine Ext.stepS ?_ (by first | exact Nat.le_refl _ | (simp; done) | (simp; omega)) _) | (with_reducible refine Ext.stepN ?_ _) | (with_reducible refine Ext.stepD ?_) | (with_reducible refine Ext.stepA ?_ _))))) (H.out.on (by (repeat (first | assumption | exact Ext.refl _ | (with_reducible refine Ext.stepS ?_ (by first | exact Nat.le_refl _ | (simp; done) | (simp; omega)) _) | (with_reducible refine Ext.stepN ?_ _) | (with_reducible refine Ext.stepD ?_) | (with_reducible refine Ext.stepA ?_ _)))))).mono ?_; rintro e wa ⟨g, c2, f2, rfl, hg, hc2, hrow, x'⟩
    have X1 := Lib.hid (show Ext w wa from Ext.trans (by (repeat (first | assumption | exact Ext.refl _ | (with_reducible refine Ext.stepS ?_ (by first | exact Nat.le_refl _ | (simp; done) | (simp; omega)) _) | (with_reducible refine Ext.stepN ?_ _) | (with_reducible refine Ext.stepD ?_) | (with_reducible refine Ext.stepA ?_ _)))) x')
    have BX1 := Lib.hid (show Box wa w.heap.size 27 _ from Box.on BX.out (Ext.trans (by (repeat (first | assumption | exact Ext.refl _ | (with_reducible refine Ext.stepS ?_ (by first | exact Nat.le_refl _ | (simp; done) | (simp; omega)) _) | (with_reducible refine Ext.stepN ?_ _) | (with_reducible refine Ext.stepD ?_) | (with_reducible refine Ext.stepA ?_ _)))) x'))
    have BZ1 := Lib.hid (show Box wa (w.heap.size + 1) 27 _ from Box.on BZ.out (Ext.trans (by (repeat (first | assumption | exact Ext.refl _ | (with_reducible refine Ext.stepS ?_ (by first | exact Nat.le_refl _ | (simp; done) | (simp; omega)) _) | (with_reducible refine Ext.stepN ?_ _) | (with_reducible refine Ext.stepD ?_) | (with_reducible refine Ext.stepA ?_ _)))) x'))
    have HG := Lib.hid (show w.heap.size + 2 ≤ g from Nat.le_trans (by first | omega | (simp; done) | (simp; omega)) hg)
    have HGL := Lib.hid hrow.lt
    have HC2 := Lib.hid hc2
    have HRW := Lib.hid (rowIs_on hrow (Ext.alloc wa (.cells #[.int .i64 m, .int .i64 d, .int .i64 S, .slice (some ⟨g, 0, none⟩) zs.length c2] 27)))
    have BO := Lib.hid (Box.alloc wa #[.int .i64 m, .int .i64 d, .int .i64 S, .slice (some ⟨g, 0, none⟩) zs.length c2] 27)
    clear hrow hg x' hc2
    go_wp2
    go_loopw [10] (fun i wr => ∃ k : Nat, k ≤ d ∧ i = .int .i64 k ∧ wr.rowIs g 2 c2 (rowT (upd (placeN m S key) (fun _ c => max c (l + y)) zs k) f2) ∧ Touch g (g + 1) (wa.alloc (.cells #[.int .i64 m, .int .i64 d, .int .i64 S, .slice (some ⟨g, 0, none⟩) zs.length c2] 27)) wr) (fun i _ => d - (intOf i).toNat)
    case atStart => exact ⟨0, Nat.zero_le _, rfl, HRW.out, Touch.refl _ _ _⟩
    case round =>
      obtain ⟨k, hk, rfl, hrow, ht⟩ := hrel
      have HRR := Lib.hid hrow
      have HT := Lib.hid ht
      have BXR := Lib.hid ((BX1.out.past _).beside ht (by have := HG.out; omega))
      have BOR := Lib.hid (BO.out.beside ht (by have := HGL.out; omega))
      obtain ⟨b0, b1, b2, b3⟩ := BXR.out.four
      clear hrow ht
      by_cases hlt : k < d
      · obtain ⟨p, hp⟩ : ∃ p, placeN m S key k = p := ⟨_, rfl⟩
        have hpl : p < zs.length := by rw [← hp, OK.out.len]; exact placeN_lt S key (by have := OK.out.m2; omega) hlt
        obtain ⟨x, hx⟩ : ∃ x, zs[p]?.getD 0 = x := ⟨_, rfl⟩
        obtain ⟨z, hz⟩ : ∃ z, max x (l + y) = z := ⟨_, rfl⟩
        have HZ := Lib.hid hz
        have hlen : (upd (placeN m S key) (fun _ c => max c (l + y)) zs k).length = zs.length := by rw [upd_length]
        have hget : (upd (placeN m S key) (fun _ c => max c (l + y)) zs k)[p]?.getD 0 = x := by rw [← hp, upd_get (fun i j h => placeN_mono S key (by have := OK.out.m2; omega) h) _ _ _ _ (Nat.le_refl _), hp, hx]
        have hcell := HRR.out.cell (i := p) (by have := HC2.out; omega)
        rw [rowT_at (by rw [hlen]; exact hpl), hget] at hcell
        have hfro := HRR.out.frozen p
        have HP := Lib.hid hp
        obtain ⟨n0, n1, n2, n3⟩ := BOR.out.four
        have HS := Lib.hid (show (wr.setCell ⟨g, p, none⟩ (.int .i64 z)).rowIs g 2 c2 (rowT (upd (placeN m S key) (fun _ c => max c (l + y)) zs (k + 1)) f2) from by
          have := rowT_set HRR.out (k := p) (by rw [hlen]; exact hpl) z
          show World.rowIs _ _ _ _ (rowT ((upd (placeN m S key) (fun _ c => max c (l + y)) zs k).set (placeN m S key k) (max (zs[placeN m S key k]?.getD 0) (l + y))) f2)
          rw [hp, hx, hz]
          exact this)
        have hpl' : (p : Int) < (zs.length : Int) := by omega
        have hp0 : (0 : Int) ≤ (p : Int) := by omega
        clear hp hx hlen hget hz
        go_wp2_with fail
        refine (c_spec_l03Place_v w.heap.size m d S key a zs.length cap k _ (by have := OK.out.m2; omega) OK.out.m64 (by omega) OK.out.key HK.out BXR.out HP.out).mono ?_; rintro e w9 ⟨rfl, q3, rfl⟩
        go_wp2_with fail
        go_region_with (go_at_call 73; refine (c_spec_l00Max x (l + y) z _ HZ.out).mono ?_; rintro e w' ⟨rfl, rfl⟩)
        all_goals
          clear b0 b1 b2 b3 n0 n1 n2 n3 hcell hfro
          go_wp2
          go_roundw
          case rel => exact ⟨k + 1, by omega, by go_num, HS.out, ((HT.out.of_drew _).trans (Touch.of_ext (by (repeat (first | assumption | exact Ext.refl _ | (with_reducible refine Ext.stepS ?_ (by first | exact Nat.le_refl _ | (simp; done) | (simp; omega)) _) | (with_reducible refine Ext.stepN ?_ _) | (with_reducible refine Ext.stepD ?_) | (with_reducible refine Ext.stepA ?_ _)))) _ _)).one _ _⟩
          case measure => simp [intOf]; omega
      · obtain rfl : k = d := by omega
        have X2 := Lib.hid (show Ext w wr from Touch.ext (X1.out.stepA _) HT.out (by have := HG.out; omega))
        have BZ2 := Lib.hid ((BZ1.out.past _).beside HT.out (by have := HG.out; omega))
        obtain ⟨NZ, hNZ⟩ : ∃ z, upd (placeN m S key) (fun _ c => max c (l + y)) zs k = z := ⟨_, rfl⟩
        have hrow := HRR.out
        rw [hNZ] at hrow
        have hNL : NZ.length = zs.length := by rw [← hNZ, upd_length]
        have HON := Lib.hid (own_rowT (lo := w.heap.size + 2) (by have := HC2.out; omega) HG.out hrow)
        have HV3 := Lib.hid (show changeR m k S NZ = (R, r) by rw [← hNZ]; exact HV.out)
        rw [hNL] at HON
        obtain ⟨n0, n1, n2, n3⟩ := BOR.out.four
        clear hrow hNZ
        cases hcb : cellsB m k S NZ
        · have HCB := Lib.hid hcb
          have hv := HV3.out
          rw [changeR_no hcb] at hv
          simp only [Prod.mk.injEq] at hv
          obtain ⟨rfl, rfl⟩ := hv
          clear hcb hNL b0 b2 b3
          go_wp2_with fail
          refine (c_spec_l03Give_no m k S _ _ _ NZ _ HCB.out (by unfold maxLen; omega) HON.out.reads).mono ?_; rintro e wz ⟨rfl, xz⟩
          have EZ := X2.out.trans xz
          obtain ⟨z0, z1, z2, z3⟩ := (BZ2.out.on xz).four
          obtain ⟨f0, f1, f2, f3⟩ := (BZ2.out.on xz).free
          clear b1 n0 n1 n2 n3 xz
          go_wp2
          refine bodyPost_ret (v := .tuple #[.agg #[.int .i64 0, .int .i64 0, .int .i64 0, .slice none 0 0], .bool false]) (by simp [results, Try.results33, go_sem, z0, z1, z2, z3]) rfl ⟨none, 0, rfl, Own.nil _ _ _ _, ?_⟩
          (repeat (first | assumption | exact Ext.refl _ | (with_reducible refine Ext.stepS ?_ (by first | exact Nat.le_refl _ | (simp; done) | (simp; omega)) _) | (with_reducible refine Ext.stepN ?_ _) | (with_reducible refine Ext.stepD ?_) | (with_reducible refine Ext.stepA ?_ _)))
        · have HCB := Lib.hid hcb
          have hv := HV3.out
          rw [changeR_yes hcb] at hv
          simp only [Prod.mk.injEq] at hv
          obtain ⟨rfl, rfl⟩ := hv
          have HNL := Lib.hid hNL
          clear hcb hNL b0 b2 b3
          go_wp2_with fail
          refine (c_spec_l03Give m k S _ _ _ NZ _ HCB.out (by unfold maxLen; omega) HON.out.reads).mono ?_; rintro e wz ⟨rfl, xz⟩
          have EZ := X2.out.trans xz
          have HOZ := Lib.hid (HON.out.on xz)
          have HSW := Lib.hid xz.size
          obtain ⟨z0, z1, z2, z3⟩ := (BZ2.out.on xz).four
          obtain ⟨f0, f1, f2, f3⟩ := (BZ2.out.on xz).free
          clear b1 n0 n1 n2 n3 xz
          go_wp2
          refine bodyPost_ret (v := .tuple #[.agg #[.int .i64 m, .int .i64 k, .int .i64 S, .slice (some ⟨g, 0, none⟩) zs.length c2], .bool true]) (by simp [results, Try.results33, go_sem, z0, z1, z2, z3]) rfl ⟨some ⟨g, 0, none⟩, c2, by rw [HNL.out], ?_, ?_⟩
          · rw [HNL.out]
            refine own_touch HOZ.out (lo' := w.heap.size + 1) (hi' := w.heap.size + 2) ?_ (by first | omega | (simp; done) | (simp; omega)) (by omega) HSW.out
            (repeat (first | assumption | exact Touch.refl _ _ _ | (with_reducible refine Touch.stepS ?_ (by first | exact Nat.le_refl _ | (simp; done) | (simp; omega)) (by first | (simp; done) | (simp; omega)) _) | (with_reducible refine Touch.stepN ?_ _) | (with_reducible refine Touch.stepA ?_ _)))
          · (repeat (first | assumption | exact Ext.refl _ | (with_reducible refine Ext.stepS ?_ (by first | exact Nat.le_refl _ | (simp; done) | (simp; omega)) _) | (with_reducible refine Ext.stepN ?_ _) | (with_reducible refine Ext.stepD ?_) | (with_reducible refine Ext.stepA ?_ _)))
  · cases hc : cellsB W D S zs
    · rw [carR_12 (by rw [hc]; rfl)] at hv
      simp only [Prod.mk.injEq] at hv
      obtain ⟨rfl, rfl⟩ := hv
      have HC := Lib.hid hc
      clear hc hp hn
      go_enter Try.func33, Try.ntmps33
      go_wp2_with (go_at_call 52; refine (c_spec_l03Is _ W D S a n cap zs _ HC.out BX.out hm (H.out.on (by (repeat (first | assumption | exact Ext.refl _ | (with_reducible refine Ext.stepS ?_ (by first | exact Nat.le_refl _ | (simp; done) | (simp; omega)) _) | (with_reducible refine Ext.stepN ?_ _) | (with_reducible refine Ext.stepD ?_) | (with_reducible refine Ext.stepA ?_ _)))))).mono ?_; rintro e u1 ⟨rfl, q, rfl⟩)
      refine bodyPost_ret (v := .tuple #[.agg #[.int .i64 0, .int .i64 0, .int .i64 0, .slice none 0 0], .bool false]) (by simp [results, Try.results33, go_sem]) rfl ⟨none, 0, rfl, Own.nil _ _ _ _, ?_⟩
      (repeat (first | assumption | exact Ext.refl _ | (with_reducible refine Ext.stepS ?_ (by first | exact Nat.le_refl _ | (simp; done) | (simp; omega)) _) | (with_reducible refine Ext.stepN ?_ _) | (with_reducible refine Ext.stepD ?_) | (with_reducible refine Ext.stepA ?_ _)))
    · cases hk : keyB key
      · rw [carR_12 (by rw [hk, Bool.and_false])] at hv
        simp only [Prod.mk.injEq] at hv
        obtain ⟨rfl, rfl⟩ := hv
        have HC := Lib.hid hc
        have HK := Lib.hid hk
        clear hc hp hk hn
        go_enter Try.func33, Try.ntmps33
        go_wp2_with (first | (go_at_call 52; refine (c_spec_l03Is _ W D S a n cap zs _ HC.out BX.out hm (H.out.on (by (repeat (first | assumption | exact Ext.refl _ | (with_reducible refine Ext.stepS ?_ (by first | exact Nat.le_refl _ | (simp; done) | (simp; omega)) _) | (with_reducible refine Ext.stepN ?_ _) | (with_reducible refine Ext.stepD ?_) | (with_reducible refine Ext.stepA ?_ _)))))).mono ?_; rintro e u1 ⟨rfl, q, rfl⟩) | (go_at_call 61; refine (c_spec_l02Key_e key _ HK.out).mono ?_; rintro e w' ⟨rfl, rfl⟩))
        refine bodyPost_ret (v := .tuple #[.agg #[.int .i64 0, .int .i64 0, .int .i64 0, .slice none 0 0], .bool false]) (by simp [results, Try.results33, go_sem]) rfl ⟨none, 0, rfl, Own.nil _ _ _ _, ?_⟩
        (repeat (first | assumption | exact Ext.refl _ | (with_reducible refine Ext.stepS ?_ (by first | exact Nat.le_refl _ | (simp; done) | (simp; omega)) _) | (with_reducible refine Ext.stepN ?_ _) | (with_reducible refine Ext.stepD ?_) | (with_reducible refine Ext.stepA ?_ _)))
      · have hy : inB 0 y 1000000 = false := by
          cases h : inB 0 y 1000000
          · rfl
          · exact absurd ⟨hc, hk, h⟩ hp
        rw [carR_3 hy] at hv
        simp only [Prod.mk.injEq] at hv
        obtain ⟨rfl, rfl⟩ := hv
        have HC := Lib.hid hc
        have HK := Lib.hid hk
        have HY := Lib.hid hy
        clear hc hp hk hy hn
        go_enter Try.func33, Try.ntmps33
        go_wp2_with (first | (go_at_call 52; refine (c_spec_l03Is _ W D S a n cap zs _ HC.out BX.out hm (H.out.on (by (repeat (first | assumption | exact Ext.refl _ | (with_reducible refine Ext.stepS ?_ (by first | exact Nat.le_refl _ | (simp; done) | (simp; omega)) _) | (with_reducible refine Ext.stepN ?_ _) | (with_reducible refine Ext.stepD ?_) | (with_reducible refine Ext.stepA ?_ _)))))).mono ?_; rintro e u1 ⟨rfl, q, rfl⟩) | (go_at_call 61; refine (c_spec_l02Key_e key _ HK.out).mono ?_; rintro e w' ⟨rfl, rfl⟩) | (go_at_call 65; refine (c_l00In_e y 0 1000000 _ HY.out).mono ?_; rintro e w' ⟨rfl, rfl⟩))
        refine bodyPost_ret (v := .tuple #[.agg #[.int .i64 0, .int .i64 0, .int .i64 0, .slice none 0 0], .bool false]) (by simp [results, Try.results33, go_sem]) rfl ⟨none, 0, rfl, Own.nil _ _ _ _, ?_⟩
        (repeat (first | assumption | exact Ext.refl _ | (with_reducible refine Ext.stepS ?_ (by first | exact Nat.le_refl _ | (simp; done) | (simp; omega)) _) | (with_reducible refine Ext.stepN ?_ _) | (with_reducible refine Ext.stepD ?_) | (with_reducible refine Ext.stepA ?_ _)))
end Go.Proofs.Ytjckikcndoobnaa
