/- PutSieve, SieveOf: the other side. -/
import Derived.Test.YtfolflkbpdbkcaaSof
import Derived.Test.YtfolflkbpdbkcaaOwc
namespace Go.Proofs.Ytfolflkbpdbkcaa
open Go.ChangeShapes Go.WideShapes Go.ChangeAt Go.RowKit
set_option linter.unusedVariables false
theorem bools_one (bs : List Bool) : ∀ u ∈ bools bs, u.oneCell' = true := by
  intro u hu; obtain ⟨x, _, rfl⟩ := List.mem_map.1 hu; rfl
set_option maxHeartbeats 4000000 in
theorem c_spec_l04Own (b : Nat) (R S : Int) (a : Option Addr) (n cap : Nat) (zs : List Bool) (w : World) (hn0 : 0 < n) (hn4 : n ≤ 1048576) (hb : Box w b 27 #[.int .i64 R, .int .i64 S, .slice a n cap]) (h : Reads w a n (bools zs)) :
    Calls Try.prog 60 #[.pointer (some ⟨b, 0, none⟩)] w fun e w' => ∃ g c f, e = .returned (.agg #[.int .i64 R, .int .i64 S, .slice (some ⟨g, 0, none⟩) n c]) ∧ w.heap.size ≤ g ∧ n ≤ c ∧ w'.rowIs g 4 c (rowB zs f) ∧ Ext w w' := by
  obtain ⟨i0, hi, hz0, hz1, hz2⟩ := info_parts info_bool
  have hl := h.bool.1
  obtain ⟨ab, ao, rfl⟩ : ∃ b off, a = some ⟨b, off, none⟩ := by
    rcases h.2 with h0 | ⟨b', off', rfl, _⟩
    · omega
    · exact ⟨_, _, rfl⟩
  have HR := Lib.hid h
  have HB := Lib.hid hb
  have HZ := Lib.hid hl
  have hlt := hb.lt
  have hbw : b ≠ w.heap.size := by omega
  have hbw' : w.heap.size ≠ b := by omega
  have HBR := Lib.hid (hb.on (Ext.alloc w (.cells #[.int .i64 0, .int .i64 0, .slice none 0 0] 27)))
  have HRS := Lib.hid (Box.alloc w #[.int .i64 0, .int .i64 0, .slice none 0 0] 27)
  obtain ⟨b0, b1, b2⟩ := HB.out.three
  clear h hb hl
  go_enter Try.func60, Try.ntmps60
  go_wp2_with fail
  go_region_held3 (fun w' => w'.cell? ⟨b, 0, none⟩ = some (.int .i64 R) ∧ w'.cell? ⟨b, 1, none⟩ = some (.int .i64 S) ∧ w'.cell? ⟨b, 2, none⟩ = some (.slice (some ⟨ab, ao, none⟩) n cap)) (first | exact KA | go_keep)
    (first | (refine step_append_lies _ (by rfl) _ _ 22 (by rfl) w.heap.size 4 i0 _ 1 1 Try.underlying22 hi hz0 hz1 hz2 rfl (by decide) (.slice (some ⟨w.heap.size + 1, 0, none⟩) 0 0) 0 [] (by rfl) (made_at _ _ _ (by first | omega | (simp; done) | (simp; omega)) (by omega) (Nat.zero_le _) rfl) ⟨ab, ao, none⟩ n cap (bools zs) (by rfl) (by rw [bools_length, HZ.out, Nat.mul_one]) (Reads.news (HR.out.on (by (repeat (first | assumption | exact Ext.refl _ | (with_reducible refine Ext.stepS ?_ (by first | exact Nat.le_refl _ | (simp; done) | (simp; omega)) _) | (with_reducible refine Ext.stepN ?_ _) | (with_reducible refine Ext.stepD ?_) | (with_reducible refine Ext.stepA ?_ _)))))) (bools_one zs) hn0 (by unfold maxLen; omega) (by omega) (by first | omega | (simp; done) | (simp; omega)) (w.heap.size + 2) (by first | omega | (simp; done) | (simp; omega)) ?_; intro g c2 w1 hown1 hgrow hat hlt1; have EA : Ext w w1 := Below.grown (show Ext w _ by (repeat (first | assumption | exact Ext.refl _ | (with_reducible refine Ext.stepS ?_ (by first | exact Nat.le_refl _ | (simp; done) | (simp; omega)) _) | (with_reducible refine Ext.stepN ?_ _) | (with_reducible refine Ext.stepD ?_) | (with_reducible refine Ext.stepA ?_ _)))) hgrow (by first | omega | (simp; done) | (simp; omega)) (by intro j hj; simp [Value.ownBlock] at hj; omega); have KA := (HB.out.on EA).three; have RB := Lib.hid (show Box w1 w.heap.size 27 #[.int .i64 0, .int .i64 0, .slice none 0 0] from (hgrow.block w.heap.size (by first | omega | (simp; done) | (simp; omega)) (by simp [Value.ownBlock])).trans (Box.on HRS.out (by (repeat (first | assumption | exact Ext.refl _ | (with_reducible refine Ext.stepS ?_ (by first | exact Nat.le_refl _ | (simp; done) | (simp; omega)) _) | (with_reducible refine Ext.stepN ?_ _) | (with_reducible refine Ext.stepD ?_) | (with_reducible refine Ext.stepA ?_ _)))))); obtain ⟨z0, z1, z2⟩ := RB.out.three; obtain ⟨y0, y1, y2, y3⟩ := RB.out.free; have OW := Lib.hid hown1; have AT := Lib.hid hat; clear hat; have EH := Lib.hid EA; clear hown1 hgrow))
  have OW2 := OW.out
  simp only [Nat.zero_add, List.nil_append] at OW2
  obtain ⟨a', c', he, ho⟩ := Own.of_row (e := 0) OW2
  cases he
  obtain ⟨g', f, hg', h1, h2, h3, h4, h5⟩ := ho.rowB hn0
  cases hg'
  have HRW := Lib.hid h5
  have hgl : w.heap.size + 1 ≤ g := by have := AT.out; simp [Value.ownBlock] at this; omega
  have HGL := Lib.hid hgl
  clear ho h5 OW2 hgl b0 b1 b2
  go_wp2
  refine bodyPost_ret (v := .agg #[.int .i64 R, .int .i64 S, .slice (some ⟨g, 0, none⟩) n c2]) (by simp [results, Try.results60, go_sem, z0, z1, z2]) rfl ⟨g, c2, f, rfl, by omega, h4, ?_, ?_⟩
  · exact ((HRW.out.setOther (by have := HGL.out; simp; omega) _).setOther (by have := HGL.out; simp; omega) _).setOther (by have := HGL.out; simp; omega) _
  · have EH' := EH.out
    (repeat (first | assumption | exact Ext.refl _ | (with_reducible refine Ext.stepS ?_ (by first | exact Nat.le_refl _ | (simp; done) | (simp; omega)) _) | (with_reducible refine Ext.stepN ?_ _) | (with_reducible refine Ext.stepD ?_) | (with_reducible refine Ext.stepA ?_ _)))
set_option maxHeartbeats 4000000 in
theorem c_spec_l04Put (b g r : Nat) (S key : Int) (c2 : Nat) (ys : List Bool) (f2 : Nat → Value) (w : World) (hok : GridOk r S ys.length) (hk : keyB key = true) (hc2 : ys.length ≤ c2) (hne : b ≠ g)
    (hb : Box w b 27 #[.int .i64 r, .int .i64 S, .slice (some ⟨g, 0, none⟩) ys.length c2]) (hrow : w.rowIs g 4 c2 (rowB ys f2)) :
    Calls Try.prog 61 #[.pointer (some ⟨b, 0, none⟩), .int .i64 key] w fun e w' => e = .returned (.tuple #[]) ∧ w'.rowIs g 4 c2 (rowB (setsAt (gplace S key ys.length) ys r) f2) ∧ Touch g (g + 1) w w' := by
  have OK := Lib.hid hok
  have HK := Lib.hid hk
  have HB := Lib.hid hb
  have HR := Lib.hid hrow
  have hr8 := hok.r8
  have hn1 := hok.n1
  have hn5 := hok.n512
  obtain ⟨b0, b1, b2⟩ := HB.out.three
  clear hok hk hb hrow
  go_enter Try.func61, Try.ntmps61
  go_wp2_with fail
  go_region_held3 (fun w' => w'.cell? ⟨b, 0, none⟩ = some (.int .i64 r) ∧ w'.cell? ⟨b, 1, none⟩ = some (.int .i64 S) ∧ w'.cell? ⟨b, 2, none⟩ = some (.slice (some ⟨g, 0, none⟩) ys.length c2)) (first | exact KA | go_keep) (first | (go_at_call 62; refine (c_spec_l04Places r ys.length S key _ OK.out HK.out).mono ?_; rintro e we ⟨pa, pc, rfl, o', xe⟩; have EA : Ext w we := Ext.trans (by (repeat (first | assumption | exact Ext.refl _ | (with_reducible refine Ext.stepS ?_ (by first | exact Nat.le_refl _ | (simp; done) | (simp; omega)) _) | (with_reducible refine Ext.stepN ?_ _) | (with_reducible refine Ext.stepD ?_) | (with_reducible refine Ext.stepA ?_ _)))) xe; have KA := (HB.out.on EA).three; have XE := Lib.hid EA; have O := Lib.hid (o'.wide (lo' := w.heap.size) (hi' := we.heap.size) (by first | omega | (simp; done) | (simp; omega)) (Nat.le_refl _)); clear xe o' EA))
  clear b0 b1 b2 KA
  have HRE := Lib.hid (rowIs_on HR.out XE.out)
  have HNE := Lib.hid (HB.out.on XE.out)
  have HGL := Lib.hid HR.out.lt
  go_wp2_with fail
  go_loopw [5] (fun i wr => ∃ j : Nat, j ≤ r ∧ i = .int .i64 j ∧ wr.rowIs g 4 c2 (rowB (setsAt (gplace S key ys.length) ys j) f2) ∧ Touch g (g + 1) we wr) (fun i _ => r - (intOf i).toNat)
  case atStart => exact ⟨0, Nat.zero_le _, rfl, HRE.out, Touch.refl _ _ _⟩
  case round =>
    obtain ⟨j, hj, rfl, hrow, ht⟩ := hrel
    have HRQ := Lib.hid hrow
    have HT := Lib.hid ht
    have HBQ := Lib.hid (HNE.out.beside ht (by omega))
    clear hrow ht
    by_cases hjr : j < r
    · obtain ⟨p, hp⟩ : ∃ p, gplace S key ys.length j = p := ⟨_, rfl⟩
      have hpl : p < ys.length := by rw [← hp]; exact gplace_lt S key j hn1
      have hlen := setsAt_length (gplace S key ys.length) ys j
      obtain ⟨pb, po, rfl, hpc⟩ : ∃ b off, pa = some ⟨b, off, none⟩ ∧ wr.cell? ⟨b, off + j, none⟩ = some (.int .i64 (p : Int)) := by
        obtain ⟨_, hq⟩ := (O.out.beside HT.out (by have h1 := HGL.out; omega)).reads.int
        rcases hq with h0 | ⟨b', off', rfl, hq⟩
        · omega
        · exact ⟨b', off', rfl, by rw [hq j hjr, gplaces_get S key ys.length r j hjr, hp]⟩
      obtain ⟨n0, n1, n2⟩ := HBQ.out.three
      have hgc := HRQ.out.cell (i := p) (by omega)
      rw [rowB_at (by rw [hlen]; exact hpl)] at hgc
      have hgf := HRQ.out.frozen p
      have HS := Lib.hid (show (wr.setCell ⟨g, p, none⟩ (.bool true)).rowIs g 4 c2 (rowB (setsAt (gplace S key ys.length) ys (j + 1)) f2) from by
        have := rowB_set HRQ.out (k := p) (by rw [hlen]; exact hpl) true
        show World.rowIs _ _ _ _ (rowB ((setsAt (gplace S key ys.length) ys j).set (gplace S key ys.length j) true) f2)
        rw [hp]
        exact this)
      have hpl' : (p : Int) < (ys.length : Int) := by omega
      have hp0 : (0 : Int) ≤ (p : Int) := by omega
      clear hp hlen
      go_wp2_with fail
      go_region
      all_goals
        go_wp2
        go_roundw
        case rel => exact ⟨j + 1, by omega, by go_num, HS.out, (HT.out.of_drew _).one _ _⟩
        case measure => simp [intOf]; omega
    · obtain rfl : j = r := by omega
      go_wp2
      first | go_end0 | (simp only [Exit.inBlock, Exit.then]; refine bodyPost_ret (results_none rfl _ _ _) rfl ?_) | refine bodyPost_ret (results_none rfl _ _ _) rfl ?_
      exact ⟨rfl, HRQ.out, (Touch.of_ext XE.out _ _).trans HT.out⟩
def putSieveR (R S : Int) (bs : List Bool) (key : Int) : SV × Bool := if gridB R S bs.length && keyB key then (⟨R, S, setsAt (gplace S key bs.length) bs R.toNat⟩, true) else (SV.no, false)
theorem putSieveR_1 {R S key : Int} {bs : List Bool} (h : gridB R S bs.length = false) : putSieveR R S bs key = (SV.no, false) := by unfold putSieveR; rw [h]; rfl
theorem putSieveR_2 {R S key : Int} {bs : List Bool} (h : keyB key = false) : putSieveR R S bs key = (SV.no, false) := by unfold putSieveR; rw [h, Bool.and_false]; rfl
theorem putSieveR_y {r : Nat} {S key : Int} {bs : List Bool} (h : gridB r S bs.length = true) (hk : keyB key = true) : putSieveR r S bs key = (⟨r, S, setsAt (gplace S key bs.length) bs r⟩, true) := by unfold putSieveR; rw [h, hk]; simp
theorem putSieveR_le {R S key : Int} {bs rz : List Bool} {rR rS : Int} {rb : Bool} (h : putSieveR R S bs key = (⟨rR, rS, rz⟩, rb)) : rz.length ≤ 1048576 := by
  unfold putSieveR at h
  split at h
  · rename_i hc
    simp only [Bool.and_eq_true] at hc
    obtain ⟨r, m, _, hm, ok⟩ := grid_ok hc.1
    have := ok.n512
    simp only [Prod.mk.injEq, SV.mk.injEq] at h
    rw [← h.1.2.2, setsAt_length]; omega
  · simp only [Prod.mk.injEq, SV.no, SV.mk.injEq] at h
    rw [← h.1.2.2]; exact Nat.zero_le _
theorem keysB_one (key : Int) : keysB [key] = keyB key := by unfold keysB; simp
theorem putSieveR_of (R S : Int) (bs : List Bool) (key : Int) : sieveOfR R S bs [key] = putSieveR R S bs key := by
  unfold sieveOfR putSieveR
  rw [keysB_one]
  rfl
theorem reads_lit (w : World) (x : Int) {g : Nat} (h : g = w.heap.size) {t : TypeId} : Reads (w.alloc (.cells #[.int .i64 x] t)) (some ⟨g, 0, none⟩) 1 (ints [x]) := by
  subst h
  refine ⟨rfl, .inr ⟨w.heap.size, 0, rfl, fun i hi => ?_⟩⟩
  obtain rfl : i = 0 := by omega
  exact (Box.alloc w #[.int .i64 x] t).cell 0
set_option maxHeartbeats 1000000 in
theorem c_impl_PutSieve (R S : Int) (a : Option Addr) (n cap : Nat) (bs : List Bool) (key : Int) (w : World) {V : SV} {v : Bool} (hv : putSieveR R S bs key = (V, v)) (hm : n ≤ maxLen) (h : Reads w a n (bools bs)) :
    Calls Try.prog 27 #[.agg #[.int .i64 R, .int .i64 S, .slice a n cap], .int .i64 key] w (RetKVB 4 V v w) := by
  have H := Lib.hid h
  have HV := Lib.hid (show sieveOfR R S bs [key] = (V, v) by rw [putSieveR_of]; exact hv)
  clear h hv
  go_enter Try.func27, Try.ntmps27
  go_wp2_with fail
  refine (c_impl_SieveOf R S a n cap bs (some ⟨w.heap.size + 2, 0, none⟩) 1 1 [key] _ HV.out hm (H.out.on (by (repeat (first | assumption | exact Ext.refl _ | (with_reducible refine Ext.stepS ?_ (by first | exact Nat.le_refl _ | (simp; done) | (simp; omega)) _) | (with_reducible refine Ext.stepN ?_ _) | (with_reducible refine Ext.stepD ?_) | (with_reducible refine Ext.stepA ?_ _))))) (by unfold maxLen; omega) (reads_lit _ key (by first | omega | (simp; done) | (simp; omega)))).mono ?_; rintro e u1 ⟨ra, rc, rfl, o', x'⟩
  have X1 : Ext w u1 := Ext.trans (by (repeat (first | assumption | exact Ext.refl _ | (with_reducible refine Ext.stepS ?_ (by first | exact Nat.le_refl _ | (simp; done) | (simp; omega)) _) | (with_reducible refine Ext.stepN ?_ _) | (with_reducible refine Ext.stepD ?_) | (with_reducible refine Ext.stepA ?_ _)))) x'
  have BZ1 := Lib.hid (show Box u1 (w.heap.size + 1) 27 #[.int .i64 0, .int .i64 0, .slice none 0 0] from Box.on ((Box.alloc_at (w.alloc (.cells #[.int .i64 R, .int .i64 S, .slice a n cap] 27)) #[.int .i64 0, .int .i64 0, .slice none 0 0] 27 (b := w.heap.size + 1) (by simp)).past _) x')
  have HO := Lib.hid o'
  have HSZ := Lib.hid (show w.heap.size + 3 ≤ u1.heap.size from Nat.le_trans (by first | omega | (simp; done) | (simp; omega)) x'.size)
  obtain ⟨z0, z1, z2⟩ := BZ1.out.three
  obtain ⟨f0, f1, f2, f3⟩ := BZ1.out.free
  clear o' x'
  go_wp2
  refine bodyPost_ret (v := .tuple #[.agg #[.int .i64 V.R, .int .i64 V.S, .slice ra V.zs.length rc], .bool v]) (by simp [results, Try.results27, go_sem, z0, z1, z2]) rfl ⟨_, _, rfl, ?_, ?_⟩
  · refine own_touch HO.out (lo' := w.heap.size + 1) (hi' := w.heap.size + 2) ?_ (by first | omega | (simp; done) | (simp; omega)) (by first | omega | (simp; done) | (simp; omega)) (Nat.le_refl _)
    (repeat (first | assumption | exact Touch.refl _ _ _ | (with_reducible refine Touch.stepS ?_ (by first | exact Nat.le_refl _ | (simp; done) | (simp; omega)) (by first | (simp; done) | (simp; omega)) _) | (with_reducible refine Touch.stepN ?_ _) | (with_reducible refine Touch.stepA ?_ _)))
  · (repeat (first | assumption | exact Ext.refl _ | (with_reducible refine Ext.stepS ?_ (by first | exact Nat.le_refl _ | (simp; done) | (simp; omega)) _) | (with_reducible refine Ext.stepN ?_ _) | (with_reducible refine Ext.stepD ?_) | (with_reducible refine Ext.stepA ?_ _)))
set_option maxHeartbeats 4000000 in
theorem c_spec_PutSieve (R S : Int) (a : Option Addr) (n cap : Nat) (bs : List Bool) (key : Int) (w : World) {V : SV} {v : Bool} (hv : putSieveR R S bs key = (V, v)) (hm : n ≤ maxLen) (h : Reads w a n (bools bs)) :
    Calls Try.prog 26 #[.agg #[.int .i64 R, .int .i64 S, .slice a n cap], .int .i64 key] w (RetKVB 4 V v w) := by
  have hn := h.bool.1
  subst hn
  have H := Lib.hid h
  have BX := Lib.hid ((Box.alloc w #[.int .i64 R, .int .i64 S, .slice a bs.length cap] 27).past (.cells #[.int .i64 0, .int .i64 0, .slice none 0 0] 27))
  have BZ := Lib.hid (Box.alloc_at (w.alloc (.cells #[.int .i64 R, .int .i64 S, .slice a bs.length cap] 27)) #[.int .i64 0, .int .i64 0, .slice none 0 0] 27 (b := w.heap.size + 1) (by simp))
  clear h
  cases hc : gridB R S bs.length
  · rw [putSieveR_1 hc] at hv
    simp only [Prod.mk.injEq] at hv
    obtain ⟨rfl, rfl⟩ := hv
    have HC := Lib.hid hc
    clear hc
    go_enter Try.func26, Try.ntmps26
    go_wp2_with (go_at_call 49; refine (c_spec_l04Is w.heap.size R S a bs.length cap _ HC.out BX.out hm).mono ?_; rintro e u1 ⟨rfl, q, rfl⟩)
    refine bodyPost_ret (v := .tuple #[.agg #[.int .i64 0, .int .i64 0, .slice none 0 0], .bool false]) (by simp [results, Try.results26, go_sem]) rfl ⟨none, 0, rfl, Own.nil _ _ _ _, ?_⟩
    (repeat (first | assumption | exact Ext.refl _ | (with_reducible refine Ext.stepS ?_ (by first | exact Nat.le_refl _ | (simp; done) | (simp; omega)) _) | (with_reducible refine Ext.stepN ?_ _) | (with_reducible refine Ext.stepD ?_) | (with_reducible refine Ext.stepA ?_ _)))
  cases hk : keyB key
  · rw [putSieveR_2 hk] at hv
    simp only [Prod.mk.injEq] at hv
    obtain ⟨rfl, rfl⟩ := hv
    have HC := Lib.hid hc
    have HK := Lib.hid hk
    clear hc hk
    go_enter Try.func26, Try.ntmps26
    go_wp2_with (first | (go_at_call 49; refine (c_spec_l04Is w.heap.size R S a bs.length cap _ HC.out BX.out hm).mono ?_; rintro e u1 ⟨rfl, q, rfl⟩) | (go_at_call 57; refine (c_spec_l02Key_q key _ HK.out).mono ?_; rintro e w' ⟨rfl, rfl⟩))
    refine bodyPost_ret (v := .tuple #[.agg #[.int .i64 0, .int .i64 0, .slice none 0 0], .bool false]) (by simp [results, Try.results26, go_sem]) rfl ⟨none, 0, rfl, Own.nil _ _ _ _, ?_⟩
    (repeat (first | assumption | exact Ext.refl _ | (with_reducible refine Ext.stepS ?_ (by first | exact Nat.le_refl _ | (simp; done) | (simp; omega)) _) | (with_reducible refine Ext.stepN ?_ _) | (with_reducible refine Ext.stepD ?_) | (with_reducible refine Ext.stepA ?_ _)))
  obtain ⟨r, m, rfl, hm2, ok⟩ := grid_ok hc
  obtain rfl : bs.length = m := by omega
  rw [putSieveR_y hc hk] at hv
  simp only [Prod.mk.injEq] at hv
  obtain ⟨hv, rfl⟩ := hv
  have HV := Lib.hid hv
  have OK := Lib.hid ok
  have HC := Lib.hid hc
  have HK := Lib.hid hk
  have hn1 := ok.n1
  have hn5 := ok.n512
  clear hc hk hv ok hm2
  go_enter Try.func26, Try.ntmps26
  go_wp2_with (first | (go_at_call 49; refine (c_spec_l04Is w.heap.size r S a bs.length cap _ HC.out BX.out hm).mono ?_; rintro e u1 ⟨rfl, q, rfl⟩) | (go_at_call 57; refine (c_spec_l02Key_q key _ HK.out).mono ?_; rintro e w' ⟨rfl, rfl⟩))
  refine (c_spec_l04Own w.heap.size r S a bs.length cap bs _ (by omega) (by omega) (BX.out.on (by (repeat (first | assumption | exact Ext.refl _ | (with_reducible refine Ext.stepS ?_ (by first | exact Nat.le_refl _ | (simp; done) | (simp; omega)) _) | (with_reducible refine Ext.stepN ?_ _) | (with_reducible refine Ext.stepD ?_) | (with_reducible refine Ext.stepA ?_ _))))) (H.out.on (by (repeat (first | assumption | exact Ext.refl _ | (with_reducible refine Ext.stepS ?_ (by first | exact Nat.le_refl _ | (simp; done) | (simp; omega)) _) | (with_reducible refine Ext.stepN ?_ _) | (with_reducible refine Ext.stepD ?_) | (with_reducible refine Ext.stepA ?_ _)))))).mono ?_; rintro e wa ⟨g, c2, f2, rfl, hg, hc2, hrow, x'⟩
  have X1 := Lib.hid (show Ext w wa from Ext.trans (by (repeat (first | assumption | exact Ext.refl _ | (with_reducible refine Ext.stepS ?_ (by first | exact Nat.le_refl _ | (simp; done) | (simp; omega)) _) | (with_reducible refine Ext.stepN ?_ _) | (with_reducible refine Ext.stepD ?_) | (with_reducible refine Ext.stepA ?_ _)))) x')
  have BZ1 := Lib.hid (show Box wa (w.heap.size + 1) 27 _ from Box.on BZ.out (Ext.trans (by (repeat (first | assumption | exact Ext.refl _ | (with_reducible refine Ext.stepS ?_ (by first | exact Nat.le_refl _ | (simp; done) | (simp; omega)) _) | (with_reducible refine Ext.stepN ?_ _) | (with_reducible refine Ext.stepD ?_) | (with_reducible refine Ext.stepA ?_ _)))) x'))
  have HG := Lib.hid (show w.heap.size + 2 ≤ g from Nat.le_trans (by first | omega | (simp; done) | (simp; omega)) hg)
  have HGL := Lib.hid hrow.lt
  have hgl := hrow.lt
  have HRW := Lib.hid (rowIs_on hrow (Ext.alloc wa (.cells #[.int .i64 r, .int .i64 S, .slice (some ⟨g, 0, none⟩) bs.length c2] 27)))
  have BO := Lib.hid (Box.alloc wa #[.int .i64 r, .int .i64 S, .slice (some ⟨g, 0, none⟩) bs.length c2] 27)
  clear hrow hg x'
  go_wp2_with fail
  refine (c_spec_l04Put wa.heap.size g r S key c2 bs f2 _ OK.out HK.out hc2 (by omega) BO.out HRW.out).mono ?_; rintro e wb ⟨rfl, hrow, ht⟩
  have X2 := Lib.hid (show Ext w wb from Touch.ext (X1.out.stepA _) ht (by have := HG.out; omega))
  have BZ2 := Lib.hid ((BZ1.out.past _).beside ht (by have := HG.out; omega))
  have BO2 := Lib.hid (BO.out.beside ht (by have := HGL.out; omega))
  obtain ⟨NZ, hNZ⟩ : ∃ z, setsAt (gplace S key bs.length) bs r = z := ⟨_, rfl⟩
  rw [hNZ] at hrow
  have hNL : NZ.length = bs.length := by rw [← hNZ, setsAt_length]
  have HVV := Lib.hid (show V = ⟨r, S, NZ⟩ by rw [← hNZ]; exact HV.out.symm)
  have HON := Lib.hid (own_rowB (lo := w.heap.size + 2) (by omega) HG.out hrow)
  have HNL := Lib.hid hNL
  obtain ⟨n0, n1, n2⟩ := BO2.out.three
  obtain ⟨z0, z1, z2⟩ := BZ2.out.three
  obtain ⟨y0, y1, y2, y3⟩ := BZ2.out.free
  have hsz := X1.out.size
  have HSW := Lib.hid ht.size
  have hq1 : w.heap.size + 1 ≠ wa.heap.size := by have := HG.out; omega
  have hq2 : wa.heap.size ≠ w.heap.size + 1 := fun h => hq1 h.symm
  clear hrow ht hNZ hgl hNL
  go_wp2
  refine bodyPost_ret (v := .tuple #[.agg #[.int .i64 r, .int .i64 S, .slice (some ⟨g, 0, none⟩) bs.length c2], .bool true]) (by simp [results, Try.results26, go_sem, z0, z1, z2]) rfl ⟨some ⟨g, 0, none⟩, c2, by rw [HVV.out, HNL.out], ?_, ?_⟩
  · rw [HVV.out]
    refine own_touch HON.out (lo' := w.heap.size + 1) (hi' := w.heap.size + 2) ?_ (by omega) (by omega) (Nat.le_refl _)
    (repeat (first | assumption | exact Touch.refl _ _ _ | (with_reducible refine Touch.stepS ?_ (by first | exact Nat.le_refl _ | (simp; done) | (simp; omega)) (by first | (simp; done) | (simp; omega)) _) | (with_reducible refine Touch.stepN ?_ _) | (with_reducible refine Touch.stepA ?_ _)))
  · have X2' := X2.out
    (repeat (first | assumption | exact Ext.refl _ | (with_reducible refine Ext.stepS ?_ (by first | exact Nat.le_refl _ | (simp; done) | (simp; omega)) _) | (with_reducible refine Ext.stepN ?_ _) | (with_reducible refine Ext.stepD ?_) | (with_reducible refine Ext.stepA ?_ _)))
end Go.Proofs.Ytfolflkbpdbkcaa
