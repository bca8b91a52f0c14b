/- A key put into tops: both sides. -/
import Derived.Test.YtfmjohpmfcmpoabTpt
import Derived.Test.YtfmjohpmfcmpoabLef
import Derived.Deep.AppendLies
import Derived.Deep.RegionHeld3
import Derived.Deep.DeepCutAuto
import Derived.BigQuiet
import Derived.RegionTactic
import Derived.BigRegion
import Derived.Outline
namespace Go.Proofs.Ytfmjohpmfcmpoab
open Go.ChangeShapes Go.WideShapes Go.ChangeAt Go.RowKit
set_option linter.unusedVariables false
theorem below_app {lo q k : Nat} {w0 w w1 : World} {o : Obj} {v : Value} (h : Below lo w0 w) (hs : lo ≤ w.heap.size) (hg : (w.alloc o).grownBy w1 v.ownBlock) (hv : ∀ j, v.ownBlock = some j → lo ≤ j) (hq : lo ≤ q) (u : Value) : Below lo w0 (w1.setCell ⟨q, k, none⟩ u) :=
  Below.setCell (p := ⟨q, k, none⟩) ((Below.alloc h hs o).grown hg (by simp; omega) hv) hq u
theorem one_cell_at2 (w : World) (o : Value) (t : TypeId) {b : Nat} (hb : w.heap.size = b) : ∀ (j : Nat) (u : Value), [o][j]? = some u → (w.alloc (.cells #[o] t)).cell? ((⟨b, 0, none⟩ : Addr).add j) = some u := by subst hb; exact one_cell_at w o t
/-- what such a call answers -/
def RetTop (T I : TypeId) (lo q : Nat) (R : Int) (t : List Int × List Int × List Int) (w : World) (e : Ending) (w' : World) : Prop := e = .returned (.tuple #[]) ∧ (∃ v1 v2 v3, TopAt T I lo w' q R t.1 t.2.1 t.2.2 v1 v2 v3) ∧ Below lo w w'
theorem leastAt_low (f : Nat → Int) : ∀ n, leastAt f n = lowTo f n
  | 0 => rfl
  | n + 1 => by show (if _ then _ else _) = (if _ then _ else _); rw [leastAt_low f n]
set_option maxRecDepth 100000 in
set_option maxHeartbeats 4000000 in
theorem c_countKey (lo q : Nat) (R : Int) (ks cs es : List Int) (key B : Int) (w : World) (hin : TopsIn R ks cs es B) (hB : B ≤ 1000000000001) {v1 v2 v3 : Value} (h : TopAt 26 2 lo w q R ks cs es v1 v2 v3) :
    Calls Try.prog 75 #[.pointer (some ⟨q, 0, none⟩), .int .i64 key] w (RetTop 26 2 lo q R (putT R ks cs es key) w) := by
  obtain ⟨i0, hi, hz0, hz1, hz2⟩ := info_parts info_i64
  obtain ⟨a1, c1, rfl, ho1⟩ := Own.of_row (e := 0) h.o1
  obtain ⟨a2, c2, rfl, ho2⟩ := Own.of_row (e := 0) h.o2
  obtain ⟨a3, c3, rfl, ho3⟩ := Own.of_row (e := 0) h.o3
  have RD1 := Lib.hid ho1.reads
  have RD2 := Lib.hid ho2.reads
  have H := Lib.hid h
  have hce := hin.c
  have hee := hin.e
  have hle := hin.le
  have hlo := hin.lo
  have hhi := hin.hi
  have hk32 : ks.length ≤ 32 := by omega
  have HM1 := Lib.hid (show ks.length ≤ maxLen by unfold maxLen; omega)
  have HMB := Lib.hid (show cs.length ≤ 1048576 by omega)
  have BL0 := Lib.hid (Below.refl lo w)
  obtain ⟨b0, b1, b2, b3⟩ := h.b.four
  by_cases hf : findL ks key < ks.length
  · rw [putT_in hf]
    have HI := Lib.hid (idxZ_yes hf)
    obtain ⟨i, hi9⟩ : ∃ i, findL ks key = i := ⟨_, rfl⟩
    rw [hi9] at hf HI ⊢
    have hv := hin.v i hf
    obtain ⟨x, hx⟩ : ∃ x, getI cs i = x := ⟨_, rfl⟩
    rw [hx] at hv ⊢
    have hv1 := hv.1
    have hv2 := hv.2
    rcases owns_parts h.o2 with ⟨_, h0⟩ | ⟨g2, c2', f2, he2, hb2, hn2, hm2, hr2, hf2⟩
    · omega
    cases he2
    have hic : i < cs.length := by omega
    have k1 : w.cell? ⟨g2, i, none⟩ = some (.int .i64 x) := by
      have := hr2.cell (i := i) (by omega)
      rw [this, ← hf2 i hic, ints_get cs i hic]
      show some (Value.int .i64 (getI cs i)) = _
      rw [hx]
    have k2 := hr2.frozen i
    have e1 : (i : Int) < (cs.length : Int) := by omega
    have e3 : (0 : Int) ≤ (i : Int) := by omega
    have HP := Lib.hid (show TopAt 26 2 lo (w.setCell ⟨g2, i, none⟩ (.int .i64 (x + 1))) q R ks (cs.set i (x + 1)) es _ _ _ from h.set2 (by decide) hic rfl)
    have HBL := Lib.hid (show Below lo w (w.setCell ⟨g2, i, none⟩ (.int .i64 (x + 1))) from Below.setCell (p := ⟨g2, i, none⟩) (Below.refl _ _) hb2 _)
    clear hr2 hf2 h hi9 hx hv ho1 ho2 ho3 hin hce hee
    go_enter Try.func75, Try.ntmps75
    go_wp2_with fail
    refine (c_Index _ _ _ ks key _ HI.out HM1.out RD1.out).mono ?_; rintro e w' ⟨rfl, rfl⟩
    go_wp2
    first | go_end0 | (simp only [Exit.inBlock, Exit.then]; refine bodyPost_ret (results_none rfl _ _ _) rfl ?_) | refine bodyPost_ret (results_none rfl _ _ _) rfl ?_
    exact ⟨by first | rfl | trivial, ⟨_, _, _, HP.out⟩, HBL.out⟩
  have HI := Lib.hid (idxZ_no hf)
  by_cases hr : (ks.length : Int) < R
  · rw [putT_room hf hr]
    obtain ⟨n1, hn1⟩ : ∃ n, ks.length = n := ⟨_, rfl⟩
    obtain ⟨n2, hn2⟩ : ∃ n, cs.length = n := ⟨_, rfl⟩
    obtain ⟨n3, hn3⟩ : ∃ n, es.length = n := ⟨_, rfl⟩
    have N1 := Lib.hid hn1
    have N2 := Lib.hid hn2
    have N3 := Lib.hid hn3
    have l1 : ks.length ≤ 32 := by omega
    have l2 : cs.length ≤ 32 := by omega
    have l3 : es.length ≤ 32 := by omega
    clear hn1 hn2 hn3 h ho1 ho2 ho3 hin hce hee hf
    go_enter Try.func75, Try.ntmps75
    go_wp2_with fail
    refine (c_Index _ _ _ ks key _ HI.out HM1.out RD1.out).mono ?_; rintro e w' ⟨rfl, rfl⟩
    have HF := Lib.hid (show decide ((ks.length : Int) = R) = false from decide_eq_false (by omega))
    go_wp2_with fail
    clear b0 b1 b2 b3
    refine (c_impl_isFull R _ _ _ _ _ _ _ _ _ _ HF.out).mono ?_; rintro e w1 ⟨rfl, x'⟩
    have TA1 := Lib.hid (H.out.on x')
    have BL1 := Lib.hid (show Below lo _ w1 from x'.mono H.out.s)
    clear x'
    obtain ⟨b0, b1, b2, b3⟩ := TA1.out.b.four
    go_wp2_with (first | (at_builtin; refine wpList_append_lies _ rfl _ _ 22 rfl lo 2 i0 _ 1 8 Try.underlying22 hi hz0 hz1 hz2 rfl (by decide) _ _ _ rfl (owns_on (TopAt.o1 TA1.out) (Ext.alloc _ _)) ⟨_, 0, none⟩ 1 1 [.int .i64 key] rfl rfl (one_cell_at2 _ _ _ (by first | rfl | simp [World.setCell])) (by intro u hu; simp at hu; subst hu; rfl) (by decide) (by unfold maxLen; omega) (by omega) (by have h5 := TA1.out.s; first | (simp at h5 ⊢; omega) | (simp; omega)) _ rfl ?_; intro g1 c1' w1' hown' hgrow hat hlt9; obtain ⟨hb9, ta9⟩ := TopAt.app1 (by decide) TA1.out hown' hgrow hat; have k1a := hb9.cell 1; have k1b := hb9.frozen 1; have TA2 := Lib.hid ta9; obtain ⟨m10, m11, m12, m13⟩ := ta9.b.four; have BL2 := Lib.hid (below_app (k := 1) BL1.out TA1.out.s hgrow (fun j hj => (TA1.out.o1.lt j hj).1) TA1.out.ql (.slice (some ⟨g1, 0, none⟩) (ks.length + 1) c1')); clear hown' hgrow hat hlt9 hb9 ta9 TA1) | (at_builtin; refine wpList_append_lies _ rfl _ _ 22 rfl lo 2 i0 _ 1 8 Try.underlying22 hi hz0 hz1 hz2 rfl (by decide) _ _ _ rfl (owns_on (TopAt.o2 TA2.out) (Ext.alloc _ _)) ⟨_, 0, none⟩ 1 1 [.int .i64 1] rfl rfl (one_cell_at2 _ _ _ (by first | rfl | simp [World.setCell])) (by intro u hu; simp at hu; subst hu; rfl) (by decide) (by unfold maxLen; omega) (by omega) (by have h5 := TA2.out.s; first | (simp at h5 ⊢; omega) | (simp; omega)) _ rfl ?_; intro g2 c2' w2' hown' hgrow hat hlt9; obtain ⟨hb9, ta9⟩ := TopAt.app2 (by decide) TA2.out hown' hgrow hat; have k2a := hb9.cell 2; have k2b := hb9.frozen 2; have TA3 := Lib.hid ta9; obtain ⟨m20, m21, m22, m23⟩ := ta9.b.four; have BL3 := Lib.hid (below_app (k := 2) BL2.out TA2.out.s hgrow (fun j hj => (TA2.out.o2.lt j hj).1) TA2.out.ql (.slice (some ⟨g2, 0, none⟩) (cs.length + 1) c2')); clear hown' hgrow hat hlt9 hb9 ta9 TA2) | (at_builtin; refine wpList_append_lies _ rfl _ _ 22 rfl lo 2 i0 _ 1 8 Try.underlying22 hi hz0 hz1 hz2 rfl (by decide) _ _ _ rfl (owns_on (TopAt.o3 TA3.out) (Ext.alloc _ _)) ⟨_, 0, none⟩ 1 1 [.int .i64 0] rfl rfl (one_cell_at2 _ _ _ (by first | rfl | simp [World.setCell])) (by intro u hu; simp at hu; subst hu; rfl) (by decide) (by unfold maxLen; omega) (by omega) (by have h5 := TA3.out.s; first | (simp at h5 ⊢; omega) | (simp; omega)) _ rfl ?_; intro g3 c3' w3' hown' hgrow hat hlt9; obtain ⟨hb9, ta9⟩ := TopAt.app3 (by decide) TA3.out hown' hgrow hat; have k3a := hb9.cell 3; have k3b := hb9.frozen 3; have TA4 := Lib.hid ta9; obtain ⟨m30, m31, m32, m33⟩ := ta9.b.four; have BL4 := Lib.hid (below_app (k := 3) BL3.out TA3.out.s hgrow (fun j hj => (TA3.out.o3.lt j hj).1) TA3.out.ql (.slice (some ⟨g3, 0, none⟩) (es.length + 1) c3')); clear hown' hgrow hat hlt9 hb9 ta9 TA3))
    first | go_end0 | (simp only [Exit.inBlock, Exit.then]; refine bodyPost_ret (results_none rfl _ _ _) rfl ?_) | refine bodyPost_ret (results_none rfl _ _ _) rfl ?_
    exact ⟨by first | rfl | trivial, ⟨_, _, _, TA4.out⟩, BL4.out⟩
  · rw [putT_full hf hr]
    obtain ⟨m, hm⟩ : ∃ m, lowTo (getI cs) cs.length = m := ⟨_, rfl⟩
    have HM := Lib.hid hm
    have hml : m < cs.length := by rw [← hm]; exact lowTo_lt _ _ (by omega)
    rw [hm]
    obtain ⟨x, hx⟩ : ∃ x, getI cs m = x := ⟨_, rfl⟩
    have HX := Lib.hid hx
    rw [hx]
    have hv := hin.v m (by omega)
    rw [hx] at hv
    have hv1 := hv.1
    have hv2 := hv.2
    rcases owns_parts h.o1 with ⟨_, h0⟩ | ⟨g1, c1', f1, he1, hb1, hn1, hm1, hr1, hf1⟩
    · omega
    rcases owns_parts h.o2 with ⟨_, h0⟩ | ⟨g2, c2', f2, he2, hb2, hn2, hm2, hr2, hf2⟩
    · omega
    rcases owns_parts h.o3 with ⟨_, h0⟩ | ⟨g3, c3', f3, he3, hb3, hn3, hm3, hr3, hf3⟩
    · omega
    cases he1
    cases he2
    cases he3
    have hmI : (m : Int) < (cs.length : Int) := by omega
    have hmK : (m : Int) < (ks.length : Int) := by omega
    have hmE : (m : Int) < (es.length : Int) := by omega
    have m0 : (0 : Int) ≤ (m : Int) := by omega
    have d12 : g1 ≠ g2 := fun e => h.p12 g1 rfl (by rw [e]; rfl)
    have d13 : g1 ≠ g3 := fun e => h.p13 g1 rfl (by rw [e]; rfl)
    have d23 : g2 ≠ g3 := fun e => h.p23 g2 rfl (by rw [e]; rfl)
    have q1 : g1 ≠ q := owns_box (by decide) h.o1 h.b g1 rfl
    have q2 : g2 ≠ q := owns_box (by decide) h.o2 h.b g2 rfl
    have q3 : g3 ≠ q := owns_box (by decide) h.o3 h.b g3 rfl
    have d21 := d12.symm
    have d31 := d13.symm
    have d32 := d23.symm
    have q1' := q1.symm
    have q2' := q2.symm
    have q3' := q3.symm
    have lm1 : m < ks.length := by omega
    have lm3 : m < es.length := by omega
    have HC1 := Lib.hid (show ∃ y, w.cell? ⟨g1, m, none⟩ = some y from ⟨_, hr1.cell (i := m) (by omega)⟩)
    have HC3 := Lib.hid (show ∃ y, w.cell? ⟨g3, m, none⟩ = some y from ⟨_, hr3.cell (i := m) (by omega)⟩)
    have HC2 := Lib.hid (show w.cell? ⟨g2, m, none⟩ = some (.int .i64 x) by
      have h9 := hr2.cell (i := m) (by omega)
      rw [h9, ← hf2 m hml, ints_get cs m hml]
      show some (Value.int .i64 (getI cs m)) = _
      rw [hx])
    have HF1 := Lib.hid (hr1.frozen m)
    have HF2 := Lib.hid (hr2.frozen m)
    have HF3 := Lib.hid (hr3.frozen m)
    have HLA := Lib.hid (show leastAt (fun i => cs[i]?.getD 0) cs.length = m by rw [leastAt_low]; exact hm)
    have hc1 : 1 ≤ cs.length := by omega
    have HCE := Lib.hid hce
    have HEE := Lib.hid hee
    clear hf1 hf2 hf3 hr1 hr2 hr3 hx hm hv h ho1 ho2 ho3 hin hf hce hee
    go_enter Try.func75, Try.ntmps75
    go_wp2_with fail
    refine (c_Index _ _ _ ks key _ HI.out HM1.out RD1.out).mono ?_; rintro e w' ⟨rfl, rfl⟩
    have HF := Lib.hid (show decide ((ks.length : Int) = R) = true from decide_eq_true (by omega))
    go_wp2_with fail
    clear b0 b1 b2 b3
    refine (c_impl_isFull R _ _ _ _ _ _ _ _ _ _ HF.out).mono ?_; rintro e w1 ⟨rfl, x'⟩
    have TA1 := Lib.hid (H.out.on x')
    have BL1 := Lib.hid (show Below lo _ w1 from x'.mono H.out.s)
    have X1 := Lib.hid x'
    clear x'
    obtain ⟨b0, b1, b2, b3⟩ := TA1.out.b.four
    go_wp2_with fail
    refine (c_firstLeast _ _ _ cs _ HMB.out hc1 (RD2.out.on X1.out)).mono ?_; rw [HLA.out]; rintro e w2 ⟨rfl, rfl⟩
    obtain ⟨y1, k1⟩ := HC1.out
    obtain ⟨y3, k3⟩ := HC3.out
    have k1 := X1.out.some k1
    have k2 := X1.out.some HC2.out
    have k3 := X1.out.some k3
    have z1 := (Below.frozen (p := ⟨g1, m, none⟩) X1.out (H.out.o1.lt g1 rfl).2).trans HF1.out
    have z3 := (Below.frozen (p := ⟨g3, m, none⟩) X1.out (H.out.o3.lt g3 rfl).2).trans HF3.out
    go_upto_region 2 with fail
    go_region_held3 (fun w' => w'.cell? ⟨q, 1, none⟩ = some (.slice (some ⟨g1, 0, none⟩) ks.length c1) ∧ w'.cell? ⟨q, 2, none⟩ = some (.slice (some ⟨g2, 0, none⟩) cs.length c2) ∧ w'.cell? ⟨q, 3, none⟩ = some (.slice (some ⟨g3, 0, none⟩) es.length c3) ∧ w'.cell? ⟨g2, m, none⟩ = some (.int .i64 x)) (go_keep) (fail)
    have z2 := (Below.frozen (p := ⟨g2, m, none⟩) X1.out (H.out.o2.lt g2 rfl).2).trans HF2.out
    have x1 : -9000000000000 ≤ x := by omega
    go_wp2
    first | go_end0 | (simp only [Exit.inBlock, Exit.then]; refine bodyPost_ret (results_none rfl _ _ _) rfl ?_) | refine bodyPost_ret (results_none rfl _ _ _) rfl ?_
    exact ⟨rfl, ⟨_, _, _, (((TA1.out.set1 (by decide) lm1 rfl).set3 (by decide) lm3 rfl).set2 (by decide) hml rfl).on (Ext.drew _)⟩, ((((BL1.out).setCell (p := ⟨g1, m, none⟩) hb1 _).setCell (p := ⟨g3, m, none⟩) hb3 _).setCell (p := ⟨g2, m, none⟩) hb2 _).drew⟩
set_option maxRecDepth 100000 in
set_option maxHeartbeats 4000000 in
theorem c_l03Top (lo q : Nat) (R : Int) (ks cs es : List Int) (key B : Int) (w : World) (hin : TopsIn R ks cs es B) (hB : B ≤ 1000000000001) {v1 v2 v3 : Value} (h : TopAt 26 2 lo w q R ks cs es v1 v2 v3) :
    Calls Try.prog 71 #[.pointer (some ⟨q, 0, none⟩), .int .i64 key] w (RetTop 26 2 lo q R (putT R ks cs es key) w) := by
  obtain ⟨i0, hi, hz0, hz1, hz2⟩ := info_parts info_i64
  obtain ⟨a1, c1, rfl, ho1⟩ := Own.of_row (e := 0) h.o1
  obtain ⟨a2, c2, rfl, ho2⟩ := Own.of_row (e := 0) h.o2
  obtain ⟨a3, c3, rfl, ho3⟩ := Own.of_row (e := 0) h.o3
  have RD1 := Lib.hid ho1.reads
  have RD2 := Lib.hid ho2.reads
  have H := Lib.hid h
  have hce := hin.c
  have hee := hin.e
  have hle := hin.le
  have hlo := hin.lo
  have hhi := hin.hi
  have hk32 : ks.length ≤ 32 := by omega
  have HM1 := Lib.hid (show ks.length ≤ maxLen by unfold maxLen; omega)
  have HMB := Lib.hid (show cs.length ≤ 1048576 by omega)
  have BL0 := Lib.hid (Below.refl lo w)
  obtain ⟨b0, b1, b2, b3⟩ := h.b.four
  by_cases hf : findL ks key < ks.length
  · rw [putT_in hf]
    have HI := Lib.hid (idxZ_yes hf)
    obtain ⟨i, hi9⟩ : ∃ i, findL ks key = i := ⟨_, rfl⟩
    rw [hi9] at hf HI ⊢
    have hv := hin.v i hf
    obtain ⟨x, hx⟩ : ∃ x, getI cs i = x := ⟨_, rfl⟩
    rw [hx] at hv ⊢
    have hv1 := hv.1
    have hv2 := hv.2
    rcases owns_parts h.o2 with ⟨_, h0⟩ | ⟨g2, c2', f2, he2, hb2, hn2, hm2, hr2, hf2⟩
    · omega
    cases he2
    have hic : i < cs.length := by omega
    have k1 : w.cell? ⟨g2, i, none⟩ = some (.int .i64 x) := by
      have := hr2.cell (i := i) (by omega)
      rw [this, ← hf2 i hic, ints_get cs i hic]
      show some (Value.int .i64 (getI cs i)) = _
      rw [hx]
    have k2 := hr2.frozen i
    have e1 : (i : Int) < (cs.length : Int) := by omega
    have e3 : (0 : Int) ≤ (i : Int) := by omega
    have HP := Lib.hid (show TopAt 26 2 lo (w.setCell ⟨g2, i, none⟩ (.int .i64 (x + 1))) q R ks (cs.set i (x + 1)) es _ _ _ from h.set2 (by decide) hic rfl)
    have HBL := Lib.hid (show Below lo w (w.setCell ⟨g2, i, none⟩ (.int .i64 (x + 1))) from Below.setCell (p := ⟨g2, i, none⟩) (Below.refl _ _) hb2 _)
    clear hr2 hf2 h hi9 hx hv ho1 ho2 ho3 hin hce hee
    go_enter Try.func71, Try.ntmps71
    go_wp2_with fail
    refine (c_spec_l03Find _ _ _ ks key _ HI.out HM1.out RD1.out).mono ?_; rintro e w' ⟨rfl, rfl⟩
    go_wp2
    first | go_end0 | (simp only [Exit.inBlock, Exit.then]; refine bodyPost_ret (results_none rfl _ _ _) rfl ?_) | refine bodyPost_ret (results_none rfl _ _ _) rfl ?_
    exact ⟨by first | rfl | trivial, ⟨_, _, _, HP.out⟩, HBL.out⟩
  have HI := Lib.hid (idxZ_no hf)
  by_cases hr : (ks.length : Int) < R
  · rw [putT_room hf hr]
    obtain ⟨n1, hn1⟩ : ∃ n, ks.length = n := ⟨_, rfl⟩
    obtain ⟨n2, hn2⟩ : ∃ n, cs.length = n := ⟨_, rfl⟩
    obtain ⟨n3, hn3⟩ : ∃ n, es.length = n := ⟨_, rfl⟩
    have N1 := Lib.hid hn1
    have N2 := Lib.hid hn2
    have N3 := Lib.hid hn3
    have l1 : ks.length ≤ 32 := by omega
    have l2 : cs.length ≤ 32 := by omega
    have l3 : es.length ≤ 32 := by omega
    clear hn1 hn2 hn3 h ho1 ho2 ho3 hin hce hee hf
    go_enter Try.func71, Try.ntmps71
    go_wp2_with fail
    refine (c_spec_l03Find _ _ _ ks key _ HI.out HM1.out RD1.out).mono ?_; rintro e w' ⟨rfl, rfl⟩
    go_wp2
    go_quiet (fail)
    clear b0 b1 b2 b3
    obtain ⟨b0, b1, b2, b3⟩ := H.out.b.four
    go_wp2_with (first | (at_builtin; refine wpList_append_lies _ rfl _ _ 22 rfl lo 2 i0 _ 1 8 Try.underlying22 hi hz0 hz1 hz2 rfl (by decide) _ _ _ rfl (owns_on (TopAt.o1 (H.out.on (Ext.drewN _ _))) (Ext.alloc _ _)) ⟨_, 0, none⟩ 1 1 [.int .i64 key] rfl rfl (one_cell_at2 _ _ _ (by first | rfl | simp [World.setCell])) (by intro u hu; simp at hu; subst hu; rfl) (by decide) (by unfold maxLen; omega) (by omega) (by have h5 := H.out.s; first | (simp at h5 ⊢; omega) | (simp; omega)) _ rfl ?_; intro g1 c1' w1' hown' hgrow hat hlt9; obtain ⟨hb9, ta9⟩ := TopAt.app1 (by decide) (H.out.on (Ext.drewN _ _)) hown' hgrow hat; have k1a := hb9.cell 1; have k1b := hb9.frozen 1; have TA2 := Lib.hid ta9; obtain ⟨m10, m11, m12, m13⟩ := ta9.b.four; have BL2 := Lib.hid (below_app (k := 1) ((Ext.drewN _ _).mono H.out.s) H.out.s hgrow (fun j hj => (H.out.o1.lt j hj).1) H.out.ql (.slice (some ⟨g1, 0, none⟩) (ks.length + 1) c1')); clear hown' hgrow hat hlt9 hb9 ta9 H) | (at_builtin; refine wpList_append_lies _ rfl _ _ 22 rfl lo 2 i0 _ 1 8 Try.underlying22 hi hz0 hz1 hz2 rfl (by decide) _ _ _ rfl (owns_on (TopAt.o2 TA2.out) (Ext.alloc _ _)) ⟨_, 0, none⟩ 1 1 [.int .i64 1] rfl rfl (one_cell_at2 _ _ _ (by first | rfl | simp [World.setCell])) (by intro u hu; simp at hu; subst hu; rfl) (by decide) (by unfold maxLen; omega) (by omega) (by have h5 := TA2.out.s; first | (simp at h5 ⊢; omega) | (simp; omega)) _ rfl ?_; intro g2 c2' w2' hown' hgrow hat hlt9; obtain ⟨hb9, ta9⟩ := TopAt.app2 (by decide) TA2.out hown' hgrow hat; have k2a := hb9.cell 2; have k2b := hb9.frozen 2; have TA3 := Lib.hid ta9; obtain ⟨m20, m21, m22, m23⟩ := ta9.b.four; have BL3 := Lib.hid (below_app (k := 2) BL2.out TA2.out.s hgrow (fun j hj => (TA2.out.o2.lt j hj).1) TA2.out.ql (.slice (some ⟨g2, 0, none⟩) (cs.length + 1) c2')); clear hown' hgrow hat hlt9 hb9 ta9 TA2) | (at_builtin; refine wpList_append_lies _ rfl _ _ 22 rfl lo 2 i0 _ 1 8 Try.underlying22 hi hz0 hz1 hz2 rfl (by decide) _ _ _ rfl (owns_on (TopAt.o3 TA3.out) (Ext.alloc _ _)) ⟨_, 0, none⟩ 1 1 [.int .i64 0] rfl rfl (one_cell_at2 _ _ _ (by first | rfl | simp [World.setCell])) (by intro u hu; simp at hu; subst hu; rfl) (by decide) (by unfold maxLen; omega) (by omega) (by have h5 := TA3.out.s; first | (simp at h5 ⊢; omega) | (simp; omega)) _ rfl ?_; intro g3 c3' w3' hown' hgrow hat hlt9; obtain ⟨hb9, ta9⟩ := TopAt.app3 (by decide) TA3.out hown' hgrow hat; have k3a := hb9.cell 3; have k3b := hb9.frozen 3; have TA4 := Lib.hid ta9; obtain ⟨m30, m31, m32, m33⟩ := ta9.b.four; have BL4 := Lib.hid (below_app (k := 3) BL3.out TA3.out.s hgrow (fun j hj => (TA3.out.o3.lt j hj).1) TA3.out.ql (.slice (some ⟨g3, 0, none⟩) (es.length + 1) c3')); clear hown' hgrow hat hlt9 hb9 ta9 TA3))
    first | go_end0 | (simp only [Exit.inBlock, Exit.then]; refine bodyPost_ret (results_none rfl _ _ _) rfl ?_) | refine bodyPost_ret (results_none rfl _ _ _) rfl ?_
    exact ⟨by first | rfl | trivial, ⟨_, _, _, TA4.out⟩, BL4.out⟩
  · rw [putT_full hf hr]
    obtain ⟨m, hm⟩ : ∃ m, lowTo (getI cs) cs.length = m := ⟨_, rfl⟩
    have HM := Lib.hid hm
    have hml : m < cs.length := by rw [← hm]; exact lowTo_lt _ _ (by omega)
    rw [hm]
    obtain ⟨x, hx⟩ : ∃ x, getI cs m = x := ⟨_, rfl⟩
    have HX := Lib.hid hx
    rw [hx]
    have hv := hin.v m (by omega)
    rw [hx] at hv
    have hv1 := hv.1
    have hv2 := hv.2
    rcases owns_parts h.o1 with ⟨_, h0⟩ | ⟨g1, c1', f1, he1, hb1, hn1, hm1, hr1, hf1⟩
    · omega
    rcases owns_parts h.o2 with ⟨_, h0⟩ | ⟨g2, c2', f2, he2, hb2, hn2, hm2, hr2, hf2⟩
    · omega
    rcases owns_parts h.o3 with ⟨_, h0⟩ | ⟨g3, c3', f3, he3, hb3, hn3, hm3, hr3, hf3⟩
    · omega
    cases he1
    cases he2
    cases he3
    have hmI : (m : Int) < (cs.length : Int) := by omega
    have hmK : (m : Int) < (ks.length : Int) := by omega
    have hmE : (m : Int) < (es.length : Int) := by omega
    have m0 : (0 : Int) ≤ (m : Int) := by omega
    have d12 : g1 ≠ g2 := fun e => h.p12 g1 rfl (by rw [e]; rfl)
    have d13 : g1 ≠ g3 := fun e => h.p13 g1 rfl (by rw [e]; rfl)
    have d23 : g2 ≠ g3 := fun e => h.p23 g2 rfl (by rw [e]; rfl)
    have q1 : g1 ≠ q := owns_box (by decide) h.o1 h.b g1 rfl
    have q2 : g2 ≠ q := owns_box (by decide) h.o2 h.b g2 rfl
    have q3 : g3 ≠ q := owns_box (by decide) h.o3 h.b g3 rfl
    have d21 := d12.symm
    have d31 := d13.symm
    have d32 := d23.symm
    have q1' := q1.symm
    have q2' := q2.symm
    have q3' := q3.symm
    have lm1 : m < ks.length := by omega
    have lm3 : m < es.length := by omega
    have HC1 := Lib.hid (show ∃ y, w.cell? ⟨g1, m, none⟩ = some y from ⟨_, hr1.cell (i := m) (by omega)⟩)
    have HC3 := Lib.hid (show ∃ y, w.cell? ⟨g3, m, none⟩ = some y from ⟨_, hr3.cell (i := m) (by omega)⟩)
    have HC2 := Lib.hid (show w.cell? ⟨g2, m, none⟩ = some (.int .i64 x) by
      have h9 := hr2.cell (i := m) (by omega)
      rw [h9, ← hf2 m hml, ints_get cs m hml]
      show some (Value.int .i64 (getI cs m)) = _
      rw [hx])
    have HF1 := Lib.hid (hr1.frozen m)
    have HF2 := Lib.hid (hr2.frozen m)
    have HF3 := Lib.hid (hr3.frozen m)
    have HLA := Lib.hid (show leastAt (fun i => cs[i]?.getD 0) cs.length = m by rw [leastAt_low]; exact hm)
    have hc1 : 1 ≤ cs.length := by omega
    have HCE := Lib.hid hce
    have HEE := Lib.hid hee
    clear hf1 hf2 hf3 hr1 hr2 hr3 hx hm hv h ho1 ho2 ho3 hin hf hce hee
    go_enter Try.func71, Try.ntmps71
    go_wp2_with fail
    refine (c_spec_l03Find _ _ _ ks key _ HI.out HM1.out RD1.out).mono ?_; rintro e w' ⟨rfl, rfl⟩
    go_wp2
    go_quiet (fail)
    go_wp2_with fail
    refine (c_spec_l03Lowest _ _ _ cs _ HM.out HMB.out (RD2.out.on (Ext.drewN _ _))).mono ?_; rintro e w1 ⟨rfl, q9, hq9⟩
    have x' : Ext w' w1 := by rw [hq9]; exact (Ext.drewN _ _).trans (Ext.drewN _ _)
    have TA1 := Lib.hid (H.out.on x')
    have BL1 := Lib.hid (show Below lo _ w1 from x'.mono H.out.s)
    have X1 := Lib.hid x'
    clear x' hq9 b0 b1 b2 b3
    obtain ⟨b0, b1, b2, b3⟩ := TA1.out.b.four
    obtain ⟨y1, k1⟩ := HC1.out
    obtain ⟨y3, k3⟩ := HC3.out
    have k1 := X1.out.some k1
    have k2 := X1.out.some HC2.out
    have k3 := X1.out.some k3
    have z1 := (Below.frozen (p := ⟨g1, m, none⟩) X1.out (H.out.o1.lt g1 rfl).2).trans HF1.out
    have z3 := (Below.frozen (p := ⟨g3, m, none⟩) X1.out (H.out.o3.lt g3 rfl).2).trans HF3.out
    go_upto_region 9 with fail
    go_region_held3 (fun w' => w'.cell? ⟨q, 1, none⟩ = some (.slice (some ⟨g1, 0, none⟩) ks.length c1) ∧ w'.cell? ⟨q, 2, none⟩ = some (.slice (some ⟨g2, 0, none⟩) cs.length c2) ∧ w'.cell? ⟨q, 3, none⟩ = some (.slice (some ⟨g3, 0, none⟩) es.length c3) ∧ w'.cell? ⟨g2, m, none⟩ = some (.int .i64 x)) (go_keep) (fail)
    have z2 := (Below.frozen (p := ⟨g2, m, none⟩) X1.out (H.out.o2.lt g2 rfl).2).trans HF2.out
    have x1 : -9000000000000 ≤ x := by omega
    go_wp2
    first | go_end0 | (simp only [Exit.inBlock, Exit.then]; refine bodyPost_ret (results_none rfl _ _ _) rfl ?_) | refine bodyPost_ret (results_none rfl _ _ _) rfl ?_
    exact ⟨rfl, ⟨_, _, _, (((TA1.out.set1 (by decide) lm1 rfl).set3 (by decide) lm3 rfl).set2 (by decide) hml rfl).on (Ext.drew _)⟩, ((((BL1.out).setCell (p := ⟨g1, m, none⟩) hb1 _).setCell (p := ⟨g3, m, none⟩) hb3 _).setCell (p := ⟨g2, m, none⟩) hb2 _).drew⟩
end Go.Proofs.Ytfmjohpmfcmpoab
