/- PutTally, OutTally: both sides. -/
import Derived.Test.YtfolflkbpdbkcabPtl
import Derived.Test.YtfolflkbpdbkcabOwc
namespace Go.Proofs.Ytfolflkbpdbkcab
open Go.ChangeShapes Go.WideShapes Go.ChangeAt Go.RowKit
set_option linter.unusedVariables false
theorem made_dr {base g : Nat} {e : TypeId} (w : World) (hg : g = w.heap.size) (hb : base ≤ g) : ((w.alloc (.cells #[] e)).drew).ownsRow base e 1 (.slice (some ⟨g, 0, none⟩) 0 0) 0 [] := by
  have h := made_at (base := base) (size := 1) (e := e) w #[] 0 hg hb (Nat.zero_le _) rfl
  exact h
theorem made_dr2 {base g : Nat} {e : TypeId} (w : World) (o : Obj) (hg : g = w.heap.size) (hb : base ≤ g) : (((w.alloc (.cells #[] e)).alloc o).drew).ownsRow base e 1 (.slice (some ⟨g, 0, none⟩) 0 0) 0 [] := by
  have h := (made_at (base := base) (size := 1) (e := e) w #[] 0 hg hb (Nat.zero_le _) rfl).alloc o
  exact h
theorem c_impl_PutTally (R S : Int) (a : Option Addr) (n cap : Nat) (zs : List Int) (key : Int) (w : World) {V : TV} {v : Bool} (hv : changeT R S zs key 1 = (V, v)) (hm : n ≤ maxLen) (h : Reads w a n (ints zs)) :
    Calls Try.prog 21 #[.agg #[.int .i64 R, .int .i64 S, .slice a n cap], .int .i64 key] w (RetKTB 2 V v w) := by
  have H := Lib.hid h
  have HV := Lib.hid hv
  clear h hv
  go_enter Try.func21, Try.ntmps21
  go_wp2_with fail
  refine (c_impl_changeTally R S a n cap zs key 1 _ HV.out (by decide) hm (H.out.on (by (repeat (first | assumption | exact Ext.refl _ | (with_reducible refine Ext.stepS ?_ (by first | exact Nat.le_refl _ | (simp; done) | (simp; omega)) _) | (with_reducible refine Ext.stepN ?_ _) | (with_reducible refine Ext.stepD ?_) | (with_reducible refine Ext.stepA ?_ _)))))).mono ?_; rintro e u1 ⟨ra, rc, rfl, o', x'⟩
  have BZ1 := Lib.hid ((Box.alloc_at (w.alloc (.cells #[.int .i64 R, .int .i64 S, .slice a n cap] 27)) #[.int .i64 0, .int .i64 0, .slice none 0 0] 27 (b := w.heap.size + 1) (by simp)).on x')
  have X1 : Ext w u1 := Ext.trans (by (repeat (first | assumption | exact Ext.refl _ | (with_reducible refine Ext.stepS ?_ (by first | exact Nat.le_refl _ | (simp; done) | (simp; omega)) _) | (with_reducible refine Ext.stepN ?_ _) | (with_reducible refine Ext.stepD ?_) | (with_reducible refine Ext.stepA ?_ _)))) x'
  have HO := Lib.hid o'
  have HSZ := Lib.hid (show w.heap.size + 2 ≤ u1.heap.size from Nat.le_trans (by first | omega | (simp; done) | (simp; omega)) x'.size)
  obtain ⟨z0, z1, z2⟩ := BZ1.out.three
  obtain ⟨f0, f1, f2, f3⟩ := BZ1.out.free
  clear o' x'
  go_wp2
  refine bodyPost_ret (v := .tuple #[.agg #[.int .i64 V.R, .int .i64 V.S, .slice ra V.zs.length rc], .bool v]) (by simp [results, Try.results21, go_sem, z0, z1, z2]) rfl ⟨_, _, rfl, ?_, ?_⟩
  · refine own_touch HO.out (lo' := w.heap.size + 1) (hi' := w.heap.size + 2) ?_ (by first | omega | (simp; done) | (simp; omega)) (by first | omega | (simp; done) | (simp; omega)) (Nat.le_refl _)
    (repeat (first | assumption | exact Touch.refl _ _ _ | (with_reducible refine Touch.stepS ?_ (by first | exact Nat.le_refl _ | (simp; done) | (simp; omega)) (by first | (simp; done) | (simp; omega)) _) | (with_reducible refine Touch.stepN ?_ _) | (with_reducible refine Touch.stepA ?_ _)))
  · (repeat (first | assumption | exact Ext.refl _ | (with_reducible refine Ext.stepS ?_ (by first | exact Nat.le_refl _ | (simp; done) | (simp; omega)) _) | (with_reducible refine Ext.stepN ?_ _) | (with_reducible refine Ext.stepD ?_) | (with_reducible refine Ext.stepA ?_ _)))
theorem c_impl_OutTally (R S : Int) (a : Option Addr) (n cap : Nat) (zs : List Int) (key : Int) (w : World) {V : TV} {v : Bool} (hv : changeT R S zs key (-1) = (V, v)) (hm : n ≤ maxLen) (h : Reads w a n (ints zs)) :
    Calls Try.prog 25 #[.agg #[.int .i64 R, .int .i64 S, .slice a n cap], .int .i64 key] w (RetKTB 2 V v w) := by
  have H := Lib.hid h
  have HV := Lib.hid hv
  clear h hv
  go_enter Try.func25, Try.ntmps25
  go_wp2_with fail
  refine (c_impl_changeTally R S a n cap zs key (-1) _ HV.out (by decide) hm (H.out.on (by (repeat (first | assumption | exact Ext.refl _ | (with_reducible refine Ext.stepS ?_ (by first | exact Nat.le_refl _ | (simp; done) | (simp; omega)) _) | (with_reducible refine Ext.stepN ?_ _) | (with_reducible refine Ext.stepD ?_) | (with_reducible refine Ext.stepA ?_ _)))))).mono ?_; rintro e u1 ⟨ra, rc, rfl, o', x'⟩
  have BZ1 := Lib.hid ((Box.alloc_at (w.alloc (.cells #[.int .i64 R, .int .i64 S, .slice a n cap] 27)) #[.int .i64 0, .int .i64 0, .slice none 0 0] 27 (b := w.heap.size + 1) (by simp)).on x')
  have X1 : Ext w u1 := Ext.trans (by (repeat (first | assumption | exact Ext.refl _ | (with_reducible refine Ext.stepS ?_ (by first | exact Nat.le_refl _ | (simp; done) | (simp; omega)) _) | (with_reducible refine Ext.stepN ?_ _) | (with_reducible refine Ext.stepD ?_) | (with_reducible refine Ext.stepA ?_ _)))) x'
  have HO := Lib.hid o'
  have HSZ := Lib.hid (show w.heap.size + 2 ≤ u1.heap.size from Nat.le_trans (by first | omega | (simp; done) | (simp; omega)) x'.size)
  obtain ⟨z0, z1, z2⟩ := BZ1.out.three
  obtain ⟨f0, f1, f2, f3⟩ := BZ1.out.free
  clear o' x'
  go_wp2
  refine bodyPost_ret (v := .tuple #[.agg #[.int .i64 V.R, .int .i64 V.S, .slice ra V.zs.length rc], .bool v]) (by simp [results, Try.results25, go_sem, z0, z1, z2]) rfl ⟨_, _, rfl, ?_, ?_⟩
  · refine own_touch HO.out (lo' := w.heap.size + 1) (hi' := w.heap.size + 2) ?_ (by first | omega | (simp; done) | (simp; omega)) (by first | omega | (simp; done) | (simp; omega)) (Nat.le_refl _)
    (repeat (first | assumption | exact Touch.refl _ _ _ | (with_reducible refine Touch.stepS ?_ (by first | exact Nat.le_refl _ | (simp; done) | (simp; omega)) (by first | (simp; done) | (simp; omega)) _) | (with_reducible refine Touch.stepN ?_ _) | (with_reducible refine Touch.stepA ?_ _)))
  · (repeat (first | assumption | exact Ext.refl _ | (with_reducible refine Ext.stepS ?_ (by first | exact Nat.le_refl _ | (simp; done) | (simp; omega)) _) | (with_reducible refine Ext.stepN ?_ _) | (with_reducible refine Ext.stepD ?_) | (with_reducible refine Ext.stepA ?_ _)))
set_option maxRecDepth 100000 in
set_option maxHeartbeats 4000000 in
theorem c_spec_l04Add (b : Nat) (R S : Int) (a : Option Addr) (n cap : Nat) (zs : List Int) (key y : Int) (w : World) {V : TV} {v : Bool} (hv : changeT R S zs key y = (V, v)) (hy : -1 ≤ y ∧ y ≤ 1) (hm : n ≤ maxLen) (h : Reads w a n (ints zs))
    (hb : Box w b 27 #[.int .i64 R, .int .i64 S, .slice a n cap]) :
    Calls Try.prog 62 #[.pointer (some ⟨b, 0, none⟩), .int .i64 key, .int .i64 y] w (RetKTB 2 V v w) := by
  have H := Lib.hid h
  have BX := Lib.hid (hb.past (.cells #[.int .i64 0, .int .i64 0, .slice none 0 0] 27))
  have BZ := Lib.hid (Box.alloc w #[.int .i64 0, .int .i64 0, .slice none 0 0] 27)
  have hbl := hb.lt
  have hn := h.int.1
  clear h hb
  cases hc : tallyB R S zs
  · rw [changeT_1 hc] at hv
    simp only [Prod.mk.injEq] at hv
    obtain ⟨rfl, rfl⟩ := hv
    have HC := Lib.hid hc
    clear hc hn hy hbl
    go_enter Try.func62, Try.ntmps62
    go_wp2_with (go_at_call 56; refine (c_spec_l04Tally b R S a n cap zs _ HC.out BX.out hm (H.out.on (Ext.alloc _ _))).mono ?_; rintro e u1 ⟨rfl, q, rfl⟩)
    refine bodyPost_ret (v := .tuple #[.agg #[.int .i64 0, .int .i64 0, .slice none 0 0], .bool false]) (by simp [results, Try.results62, go_sem]) rfl ⟨none, 0, rfl, Own.nil _ _ _ _, ?_⟩
    (repeat (first | assumption | exact Ext.refl _ | (with_reducible refine Ext.stepS ?_ (by first | exact Nat.le_refl _ | (simp; done) | (simp; omega)) _) | (with_reducible refine Ext.stepN ?_ _) | (with_reducible refine Ext.stepD ?_) | (with_reducible refine Ext.stepA ?_ _)))
  cases hk : keyB key
  · rw [changeT_2 hk] at hv
    simp only [Prod.mk.injEq] at hv
    obtain ⟨rfl, rfl⟩ := hv
    have HC := Lib.hid hc
    have HK := Lib.hid hk
    clear hc hn hy hk hbl
    go_enter Try.func62, Try.ntmps62
    go_wp2_with (first | (go_at_call 56; refine (c_spec_l04Tally b R S a n cap zs _ HC.out BX.out hm (H.out.on (Ext.alloc _ _))).mono ?_; rintro e u1 ⟨rfl, q, rfl⟩) | (go_at_call 66; refine (c_spec_l02Key_q key _ HK.out).mono ?_; rintro e w' ⟨rfl, rfl⟩))
    refine bodyPost_ret (v := .tuple #[.agg #[.int .i64 0, .int .i64 0, .slice none 0 0], .bool false]) (by simp [results, Try.results62, go_sem]) rfl ⟨none, 0, rfl, Own.nil _ _ _ _, ?_⟩
    (repeat (first | assumption | exact Ext.refl _ | (with_reducible refine Ext.stepS ?_ (by first | exact Nat.le_refl _ | (simp; done) | (simp; omega)) _) | (with_reducible refine Ext.stepN ?_ _) | (with_reducible refine Ext.stepD ?_) | (with_reducible refine Ext.stepA ?_ _)))
  obtain ⟨r, rfl, ok, up⟩ := tally_ok hc
  rw [changeT_y hc hk] at hv
  have HV := Lib.hid hv
  have OK := Lib.hid ok
  have UP := Lib.hid up
  have HC := Lib.hid hc
  have HK := Lib.hid hk
  have HY := Lib.hid hy
  have hr8 := ok.r8
  have hn1 := ok.n1
  have hn5 := ok.n512
  subst hn
  clear hc hk hv ok up hy
  go_enter Try.func62, Try.ntmps62
  go_wp2_with (first | (go_at_call 56; refine (c_spec_l04Tally b r S a zs.length cap zs _ HC.out BX.out hm (H.out.on (Ext.alloc _ _))).mono ?_; rintro e u1 ⟨rfl, q, rfl⟩) | (go_at_call 66; refine (c_spec_l02Key_q key _ HK.out).mono ?_; rintro e w' ⟨rfl, rfl⟩))
  have hbw : b ≠ w.heap.size := by omega
  have hbw' : w.heap.size ≠ b := by omega
  obtain ⟨w1, hw1⟩ : ∃ w1, (w.alloc (.cells #[.int .i64 0, .int .i64 0, .slice none 0 0] 27)).drewN q = w1 := ⟨_, rfl⟩
  have X1 := Lib.hid (show Ext w w1 by rw [← hw1]; (repeat (first | assumption | exact Ext.refl _ | (with_reducible refine Ext.stepS ?_ (by first | exact Nat.le_refl _ | (simp; done) | (simp; omega)) _) | (with_reducible refine Ext.stepN ?_ _) | (with_reducible refine Ext.stepD ?_) | (with_reducible refine Ext.stepA ?_ _))))
  have BX1 := Lib.hid (show Box w1 b 27 _ by rw [← hw1]; exact BX.out.on (Ext.drewN _ _))
  have BZ1 := Lib.hid (show Box w1 w.heap.size 27 _ by rw [← hw1]; exact BZ.out.on (Ext.drewN _ _))
  have HSZ := Lib.hid (show w1.heap.size = w.heap.size + 1 by rw [← hw1]; simp)
  have H1 := Lib.hid (H.out.on X1.out)
  rw [hw1]
  clear hw1 BX BZ
  obtain ⟨ab, ao, rfl⟩ : ∃ b off, a = some ⟨b, off, none⟩ := by
    rcases H1.out.2 with h0 | ⟨b', off', rfl, _⟩
    · omega
    · exact ⟨_, _, rfl⟩
  obtain ⟨i0, hi, hz0, hz1, hz2⟩ := info_parts info_i64
  obtain ⟨b0, b1, b2⟩ := BX1.out.three
  have hq1 : b ≠ w1.heap.size := by have := HSZ.out; omega
  have hq2 : w1.heap.size ≠ b := fun h => hq1 h.symm
  have hq3 : b ≠ w1.heap.size + 1 := by have := HSZ.out; omega
  have hq4 : w1.heap.size + 1 ≠ b := fun h => hq3 h.symm
  go_upto_region 3 with fail
  go_cut [8] (fun s8 wx => ∃ nb g c2 f2, s8 = .pointer (some ⟨nb, 0, none⟩) ∧ Box wx nb 27 #[.int .i64 r, .int .i64 S, .slice (some ⟨g, 0, none⟩) zs.length c2] ∧ w1.heap.size ≤ g ∧ nb ≠ g ∧ w1.heap.size ≤ nb ∧ zs.length ≤ c2 ∧ wx.rowIs g 2 c2 (rowT zs f2) ∧ Ext w1 wx)
  case first =>
    go_region_held3 (fun w' => w'.cell? ⟨b, 0, none⟩ = some (.int .i64 r) ∧ w'.cell? ⟨b, 1, none⟩ = some (.int .i64 S) ∧ w'.cell? ⟨b, 2, none⟩ = some (.slice (some ⟨ab, ao, none⟩) zs.length cap)) (first | exact KA | go_keep)
      (first | (refine step_append_lies _ (by rfl) _ _ 22 (by rfl) w1.heap.size 2 i0 _ 1 8 Try.underlying22 hi hz0 hz1 hz2 rfl (by decide) (.slice (some ⟨w1.heap.size, 0, none⟩) 0 0) 0 [] (by rfl) (made_dr w1 rfl (Nat.le_refl _)) ⟨ab, ao, none⟩ zs.length cap (ints zs) (by rfl) (by rw [ints_length, Nat.mul_one]) (Reads.news (H1.out.on (by (repeat (first | assumption | exact Ext.refl _ | (with_reducible refine Ext.stepS ?_ (by first | exact Nat.le_refl _ | (simp; done) | (simp; omega)) _) | (with_reducible refine Ext.stepN ?_ _) | (with_reducible refine Ext.stepD ?_) | (with_reducible refine Ext.stepA ?_ _)))))) (ints_one zs) (by omega) (by unfold maxLen; omega) (by omega) (by first | omega | (simp; done) | (simp; omega)) (w1.heap.size + 1) (by first | omega | (simp; done) | (simp; omega)) ?_; intro g c2 w2 hown1 hgrow hat hlt1; have EA : Ext w1 w2 := Below.grown (show Ext w1 _ by (repeat (first | assumption | exact Ext.refl _ | (with_reducible refine Ext.stepS ?_ (by first | exact Nat.le_refl _ | (simp; done) | (simp; omega)) _) | (with_reducible refine Ext.stepN ?_ _) | (with_reducible refine Ext.stepD ?_) | (with_reducible refine Ext.stepA ?_ _)))) hgrow (by first | omega | (simp; done) | (simp; omega)) (by intro j hj; simp [Value.ownBlock] at hj; omega); have KA := (BX1.out.on EA).three; have OW := Lib.hid hown1; have AT := Lib.hid hat; have GL := Lib.hid hlt1; clear hat hlt1; have EH := Lib.hid EA; clear hown1 hgrow) | (refine step_append_lies _ (by rfl) _ _ 22 (by rfl) w1.heap.size 2 i0 _ 1 8 Try.underlying22 hi hz0 hz1 hz2 rfl (by decide) (.slice (some ⟨w1.heap.size, 0, none⟩) 0 0) 0 [] (by rfl) (made_dr2 w1 (.cells #[.int .i64 0, .int .i64 0, .slice none 0 0] 27) rfl (Nat.le_refl _)) ⟨ab, ao, none⟩ zs.length cap (ints zs) (by rfl) (by rw [ints_length, Nat.mul_one]) (Reads.news (H1.out.on (by (repeat (first | assumption | exact Ext.refl _ | (with_reducible refine Ext.stepS ?_ (by first | exact Nat.le_refl _ | (simp; done) | (simp; omega)) _) | (with_reducible refine Ext.stepN ?_ _) | (with_reducible refine Ext.stepD ?_) | (with_reducible refine Ext.stepA ?_ _)))))) (ints_one zs) (by omega) (by unfold maxLen; omega) (by omega) (by first | omega | (simp; done) | (simp; omega)) (w1.heap.size + 2) (by first | omega | (simp; done) | (simp; omega)) ?_; intro g c2 w2 hown1 hgrow hat hlt1; have EA : Ext w1 w2 := Below.grown (show Ext w1 _ by (repeat (first | assumption | exact Ext.refl _ | (with_reducible refine Ext.stepS ?_ (by first | exact Nat.le_refl _ | (simp; done) | (simp; omega)) _) | (with_reducible refine Ext.stepN ?_ _) | (with_reducible refine Ext.stepD ?_) | (with_reducible refine Ext.stepA ?_ _)))) hgrow (by first | omega | (simp; done) | (simp; omega)) (by intro j hj; simp [Value.ownBlock] at hj; omega); have KA := (BX1.out.on EA).three; have OW := Lib.hid hown1; have AT := Lib.hid hat; have GL := Lib.hid hlt1; clear hat hlt1; have EH := Lib.hid EA; have NB := Lib.hid (show Box w2 (w1.heap.size + 1) 27 #[.int .i64 0, .int .i64 0, .slice none 0 0] from (hgrow.block (w1.heap.size + 1) (by first | omega | (simp; done) | (simp; omega)) (by simp [Value.ownBlock])).trans (Box.on (Box.alloc_at (w1.alloc (.cells #[] 2)) #[.int .i64 0, .int .i64 0, .slice none 0 0] 27 (b := w1.heap.size + 1) (by simp)) (Ext.drew _))); obtain ⟨z0, z1, z2⟩ := NB.out.three; obtain ⟨y0, y1, y2, y3⟩ := NB.out.free; clear hown1 hgrow) | (refine step_append_lies _ (by rfl) _ _ 22 (by rfl) w1.heap.size 2 i0 _ 1 8 Try.underlying22 hi hz0 hz1 hz2 rfl (by decide) (.slice (some ⟨w1.heap.size + 1, 0, none⟩) 0 0) 0 [] (by rfl) (made_dr (w1.alloc (.cells #[.int .i64 0, .int .i64 0, .slice none 0 0] 27)) (by simp) (by simp)) ⟨ab, ao, none⟩ zs.length cap (ints zs) (by rfl) (by rw [ints_length, Nat.mul_one]) (Reads.news (H1.out.on (by (repeat (first | assumption | exact Ext.refl _ | (with_reducible refine Ext.stepS ?_ (by first | exact Nat.le_refl _ | (simp; done) | (simp; omega)) _) | (with_reducible refine Ext.stepN ?_ _) | (with_reducible refine Ext.stepD ?_) | (with_reducible refine Ext.stepA ?_ _)))))) (ints_one zs) (by omega) (by unfold maxLen; omega) (by omega) (by first | omega | (simp; done) | (simp; omega)) (w1.heap.size + 2) (by first | omega | (simp; done) | (simp; omega)) ?_; intro g c2 w2 hown1 hgrow hat hlt1; have EA : Ext w1 w2 := Below.grown (show Ext w1 _ by (repeat (first | assumption | exact Ext.refl _ | (with_reducible refine Ext.stepS ?_ (by first | exact Nat.le_refl _ | (simp; done) | (simp; omega)) _) | (with_reducible refine Ext.stepN ?_ _) | (with_reducible refine Ext.stepD ?_) | (with_reducible refine Ext.stepA ?_ _)))) hgrow (by first | omega | (simp; done) | (simp; omega)) (by intro j hj; simp [Value.ownBlock] at hj; omega); have KA := (BX1.out.on EA).three; have OW := Lib.hid hown1; have AT := Lib.hid hat; have GL := Lib.hid hlt1; clear hat hlt1; have EH := Lib.hid EA; have NB := Lib.hid (show Box w2 (w1.heap.size) 27 #[.int .i64 0, .int .i64 0, .slice none 0 0] from (hgrow.block (w1.heap.size) (by first | omega | (simp; done) | (simp; omega)) (by simp [Value.ownBlock])).trans (Box.on ((Box.alloc w1 #[.int .i64 0, .int .i64 0, .slice none 0 0] 27).past (.cells #[] 2)) (Ext.drew _))); obtain ⟨z0, z1, z2⟩ := NB.out.three; obtain ⟨y0, y1, y2, y3⟩ := NB.out.free; clear hown1 hgrow))
    all_goals
      have OW2 := OW.out
      simp only [Nat.zero_add, List.nil_append] at OW2
      obtain ⟨a', c', he, ho⟩ := Own.of_row (e := 0) OW2
      cases he
      obtain ⟨g', f2, hg', h1, h2, h3, h4, h5⟩ := ho.rowT (by omega)
      cases hg'
      have R2 := Lib.hid h5
      have G2 := Lib.hid h1
      have AT2 := AT.out
      simp [Value.ownBlock] at AT2
      have AT3 := Lib.hid AT2
      have C2 := Lib.hid h4
      clear OW2 ho h1 h2 h3 h4 h5 AT2 AT OW
      go_wp2_with fail
      go_meet
      first
        | exact ⟨w2.heap.size, g, c2, f2, rfl, Box.alloc _ _ _, G2.out, by have := GL.out; omega, EH.out.size, C2.out, rowIs_on R2.out (Ext.alloc _ _), EH.out.stepA _⟩
        | exact ⟨_, g, c2, f2, rfl, ((NB.out.put 0 _).put 1 _).put 2 _, G2.out, by have := AT3.out; omega, by omega, C2.out, ((R2.out.setOther (by have := AT3.out; simp; omega) _).setOther (by have := AT3.out; simp; omega) _).setOther (by have := AT3.out; simp; omega) _, by have EH' := EH.out; (repeat (first | assumption | exact Ext.refl _ | (with_reducible refine Ext.stepS ?_ (by first | exact Nat.le_refl _ | (simp; done) | (simp; omega)) _) | (with_reducible refine Ext.stepN ?_ _) | (with_reducible refine Ext.stepD ?_) | (with_reducible refine Ext.stepA ?_ _)))⟩
  case rest =>
    obtain ⟨nb, g, c2, f2, rfl, hnb, hg, hng, hnw, hc2, hrow, hext⟩ := hcut
    have HNB := Lib.hid hnb
    have HRW := Lib.hid hrow
    have HEX := Lib.hid hext
    have HNG := Lib.hid hng
    have HG := Lib.hid hg
    have HNW := Lib.hid hnw
    clear hnb hrow hext b0 b1 b2 hng hg hnw hq1 hq2 hq3 hq4
    obtain ⟨b0, b1, b2⟩ := (BX1.out.on HEX.out).three
    go_wp2_with fail
    go_region_held3 (fun w' => w'.cell? ⟨b, 0, none⟩ = some (.int .i64 r) ∧ w'.cell? ⟨b, 1, none⟩ = some (.int .i64 S) ∧ w'.cell? ⟨b, 2, none⟩ = some (.slice (some ⟨ab, ao, none⟩) zs.length cap)) (first | exact KA | go_keep) (first | (go_at_call 67; refine (c_spec_l04Places r zs.length S key _ OK.out HK.out).mono ?_; rintro e we ⟨pa, pc, rfl, o', xe⟩; have EA : Ext wc we := Ext.trans (by (repeat (first | assumption | exact Ext.refl _ | (with_reducible refine Ext.stepS ?_ (by first | exact Nat.le_refl _ | (simp; done) | (simp; omega)) _) | (with_reducible refine Ext.stepN ?_ _) | (with_reducible refine Ext.stepD ?_) | (with_reducible refine Ext.stepA ?_ _)))) xe; have KA := (BX1.out.on (HEX.out.trans EA)).three; have XE := Lib.hid EA; have O := Lib.hid (o'.wide (lo' := wc.heap.size) (hi' := we.heap.size) (by first | omega | (simp; done) | (simp; omega)) (Nat.le_refl _)); clear xe o' EA))
    clear b0 b1 b2 KA
    go_wp2_with fail
    have HRE := Lib.hid (rowIs_on HRW.out XE.out)
    have HNE := Lib.hid (HNB.out.on XE.out)
    have HEE := Lib.hid (HEX.out.trans XE.out)
    go_loopw [10] (fun i wr => ∃ k : Nat, k ≤ r ∧ i = .int .i64 k ∧ wr.rowIs g 2 c2 (rowT (addAt (gplace S key zs.length) y zs k) f2) ∧ Touch g (g + 1) we wr) (fun i _ => r - (intOf i).toNat)
    case atStart => exact ⟨0, Nat.zero_le _, rfl, HRE.out, Touch.refl _ _ _⟩
    case round =>
      obtain ⟨k, hk, rfl, hrow, ht⟩ := hrel
      have HRR := Lib.hid hrow
      have HT := Lib.hid ht
      have HGL := Lib.hid HRW.out.lt
      have HWE := Lib.hid (show wc.heap.size ≤ we.heap.size from XE.out.size)
      have HBB := Lib.hid (HNE.out.beside ht (by have := HNG.out; omega))
      clear hrow ht
      by_cases hlt : k < r
      · obtain ⟨p, hp⟩ : ∃ p, gplace S key zs.length k = p := ⟨_, rfl⟩
        have hpl : p < zs.length := by rw [← hp]; exact gplace_lt S key k (by omega)
        have hlen := addAt_length (gplace S key zs.length) y zs k
        have hbd := addAt_bd (p := gplace S key zs.length) HY.out (fun i hi => upB_at UP.out hi) k p hpl
        obtain ⟨x, hx⟩ : ∃ x, (addAt (gplace S key zs.length) y zs k)[p]?.getD 0 = x := ⟨_, rfl⟩
        rw [hx] at hbd
        obtain ⟨x0, x1⟩ := hbd
        have hyy := HY.out
        have hw : IntKind.i64.wrap (x + y) = x + y := by rw [IntKind.wrap_i64]; omega
        obtain ⟨pb, po, rfl, hpc⟩ : ∃ b off, pa = some ⟨b, off, none⟩ ∧ wr.cell? ⟨b, off + k, none⟩ = some (.int .i64 (p : Int)) := by
          obtain ⟨_, hq⟩ := (O.out.beside HT.out (by have h1 := HGL.out; have h2 := HWE.out; have h3 := HEX.out.size; have h4 := HG.out; omega)).reads.int
          rcases hq with h0 | ⟨b', off', rfl, hq⟩
          · omega
          · exact ⟨b', off', rfl, by rw [hq k hlt, gplaces_get S key zs.length r k hlt, hp]⟩
        obtain ⟨n0, n1, n2⟩ := HBB.out.three
        have hgc := HRR.out.cell (i := p) (by omega)
        rw [rowT_at (by rw [hlen]; exact hpl), hx] at hgc
        have hgf := HRR.out.frozen p
        have HS := Lib.hid (show (wr.setCell ⟨g, p, none⟩ (.int .i64 (x + y))).rowIs g 2 c2 (rowT (addAt (gplace S key zs.length) y zs (k + 1)) f2) from by
          have := rowT_set HRR.out (k := p) (by rw [hlen]; exact hpl) (x + y)
          show World.rowIs _ _ _ _ (rowT ((addAt (gplace S key zs.length) y zs k).set (gplace S key zs.length k) ((addAt (gplace S key zs.length) y zs k)[gplace S key zs.length k]?.getD 0 + y)) f2)
          rw [hp, hx]
          exact this)
        have hpl' : (p : Int) < (zs.length : Int) := by omega
        have hp0 : (0 : Int) ≤ (p : Int) := by omega
        clear hp hx hlen
        go_wp2_with fail
        go_region
        all_goals
          go_wp2
          go_roundw
          case rel => exact ⟨k + 1, by omega, by go_num, HS.out, (HT.out.of_drew _).one _ _⟩
          case measure => simp [intOf]; omega
      · obtain rfl : k = r := by omega
        obtain ⟨NZ, hNZ⟩ : ∃ z, addAt (gplace S key zs.length) y zs k = z := ⟨_, rfl⟩
        have hNL : NZ.length = zs.length := by rw [← hNZ, addAt_length]
        have HV3 := Lib.hid (show giveT k S NZ = (V, v) by rw [← hNZ]; exact HV.out)
        have HRN := Lib.hid (show wr.rowIs g 2 c2 (rowT NZ f2) by rw [← hNZ]; exact HRR.out)
        have HON := Lib.hid (own_rowT (lo := w1.heap.size) (by omega) HG.out HRN.out)
        have HX := Lib.hid (show Ext w1 wr from Touch.ext HEE.out HT.out HG.out)
        have HZN := Lib.hid (BZ1.out.on HX.out)
        have HEW := Lib.hid (X1.out.trans HX.out)
        obtain ⟨n0, n1, n2⟩ := HBB.out.three
        rw [hNL] at HON
        clear hNZ
        cases hcb : tallyB k S NZ
        · have HCB := Lib.hid hcb
          have hv := HV3.out
          rw [giveT_no hcb] at hv
          simp only [Prod.mk.injEq] at hv
          obtain ⟨rfl, rfl⟩ := hv
          clear hcb hNL
          go_wp2_with fail
          refine (c_spec_l04Tally nb k S _ _ _ NZ _ HCB.out HBB.out (by unfold maxLen; omega) HON.out.reads).mono ?_; rintro e wz ⟨rfl, qz, rfl⟩
          have xz : Ext wr (wr.drewN qz) := Ext.drewN _ _
          have EZ := HEW.out.trans xz
          obtain ⟨z0, z1, z2⟩ := (HZN.out.on xz).three
          obtain ⟨y0, y1, y2, y3⟩ := (HZN.out.on xz).free
          clear n0 n1 n2 xz
          go_wp2
          refine bodyPost_ret (v := .tuple #[.agg #[.int .i64 0, .int .i64 0, .slice none 0 0], .bool false]) (by simp [results, Try.results62, go_sem, z0, z1, z2]) rfl ⟨none, 0, rfl, Own.nil _ _ _ _, ?_⟩
          (repeat (first | assumption | exact Ext.refl _ | (with_reducible refine Ext.stepS ?_ (by first | exact Nat.le_refl _ | (simp; done) | (simp; omega)) _) | (with_reducible refine Ext.stepN ?_ _) | (with_reducible refine Ext.stepD ?_) | (with_reducible refine Ext.stepA ?_ _)))
        · have HCB := Lib.hid hcb
          have hv := HV3.out
          rw [giveT_yes hcb] at hv
          simp only [Prod.mk.injEq] at hv
          obtain ⟨rfl, rfl⟩ := hv
          have HNL := Lib.hid hNL
          clear hcb hNL
          go_wp2_with fail
          refine (c_spec_l04Tally nb k S _ _ _ NZ _ HCB.out HBB.out (by unfold maxLen; omega) HON.out.reads).mono ?_; rintro e wz ⟨rfl, qz, rfl⟩
          have xz : Ext wr (wr.drewN qz) := Ext.drewN _ _
          have EZ := HEW.out.trans xz
          have HOZ := Lib.hid (HON.out.on xz)
          have HSW := Lib.hid xz.size
          obtain ⟨z0, z1, z2⟩ := (HZN.out.on xz).three
          obtain ⟨y0, y1, y2, y3⟩ := (HZN.out.on xz).free
          obtain ⟨m0, m1, m2⟩ := (HBB.out.on xz).three
          have hnbz : w.heap.size ≠ nb := by have := HSZ.out; have := HNW.out; omega
          have hnbz' : nb ≠ w.heap.size := fun h => hnbz h.symm
          clear n0 n1 n2 xz
          go_wp2
          refine bodyPost_ret (v := .tuple #[.agg #[.int .i64 k, .int .i64 S, .slice (some ⟨g, 0, none⟩) zs.length c2], .bool true]) (by simp [results, Try.results62, go_sem, z0, z1, z2]) rfl ⟨some ⟨g, 0, none⟩, c2, by rw [HNL.out], ?_, ?_⟩
          · rw [HNL.out]
            refine own_touch HOZ.out (lo' := w.heap.size) (hi' := w.heap.size + 1) ?_ (by have := HSZ.out; omega) (by have := HSZ.out; omega) HSW.out
            (repeat (first | assumption | exact Touch.refl _ _ _ | (with_reducible refine Touch.stepS ?_ (by first | exact Nat.le_refl _ | (simp; done) | (simp; omega)) (by first | (simp; done) | (simp; omega)) _) | (with_reducible refine Touch.stepN ?_ _) | (with_reducible refine Touch.stepA ?_ _)))
          · (repeat (first | assumption | exact Ext.refl _ | (with_reducible refine Ext.stepS ?_ (by first | exact Nat.le_refl _ | (simp; done) | (simp; omega)) _) | (with_reducible refine Ext.stepN ?_ _) | (with_reducible refine Ext.stepD ?_) | (with_reducible refine Ext.stepA ?_ _)))
end Go.Proofs.Ytfolflkbpdbkcab
