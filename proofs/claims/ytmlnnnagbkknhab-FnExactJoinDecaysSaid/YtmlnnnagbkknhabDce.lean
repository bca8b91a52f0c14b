/- JoinDecays: both sides. -/
import Derived.Test.YtmlnnnagbkknhabDcd
namespace Go.Proofs.Ytmlnnnagbkknhab
open Go.ChangeShapes Go.WideShapes Go.ChangeAt Go.RowKit Go.Proofs.Ytmlnnnagbkknhab.Flo
set_option linter.unusedVariables false
attribute [local go_sem] unary_neg_float run_store_float run_store_complex
theorem c_sumOfDecay (h s : Nat) (m mk : Int) (mb : Nat) (l x ex v : Nat) (w : World) (hr : decAtB h s m mk = true) (hR : DecR h s (mk - m) l x ex v) (hh : h < 4294967296) (hs : s < 4294967296) (hc : w.cell? ⟨mb, 0, none⟩ = some (.int .i64 mk)) :
    Calls Try.prog 65 #[.agg #[.float .f32 h, .float .f32 s, .int .i64 m], .pointer (some ⟨mb, 0, none⟩)] w fun e w' => e = .returned (.float .f32 v) ∧ Ext w w' := by
  have HR := Lib.hid hr
  have HDR := Lib.hid hR
  have HH := Lib.hid hh
  have HS := Lib.hid hs
  have BX := Lib.hid (Box.alloc w #[.float .f32 h, .float .f32 s, .int .i64 m] 26)
  have X0 := Lib.hid (Ext.alloc w (.cells #[.float .f32 h, .float .f32 s, .int .i64 m] 26))
  obtain ⟨b0, b1, b2⟩ := BX.out.three
  have hc1 : (w.alloc (.cells #[.float .f32 h, .float .f32 s, .int .i64 m] 26)).cell? ⟨mb, 0, none⟩ = some (.int .i64 mk) := Ext.some X0.out hc
  clear hr hR hh hs hc
  go_enter Try.func65, Try.ntmps65
  go_wp2_with fail
  clear b0 b1 b2 hc1
  refine (c_impl_DecayAt_yes h s m mk l x ex v _ HR.out HDR.out HH.out HS.out).mono ?_; rintro e w1 ⟨rfl, x1⟩
  go_wp2
  go_ret
  exact ⟨rfl, X0.out.trans x1⟩
theorem c_l00Max_d (x y z : Int) (w : World) (h : max x y = z) : Calls Try.prog 64 #[.int .i64 x, .int .i64 y] w fun e w' => e = .returned (.int .i64 z) ∧ w = w' := by
  by_cases hx : x > y
  · obtain rfl : x = z := by omega
    clear h
    go_enter Try.func64, Try.ntmps64
    go_wp2
    go_ret
    exact ⟨rfl, rfl⟩
  · obtain rfl : y = z := by omega
    clear h
    go_enter Try.func64, Try.ntmps64
    go_wp2
    go_ret
    exact ⟨rfl, rfl⟩
set_option maxHeartbeats 8000000 in
theorem c_impl_JoinDecays_a (h s : Nat) (m : Int) (h' s' : Nat) (m' : Int) (w : World) (hh : h < 4294967296) (hs : s < 4294967296) (hh' : h' < 4294967296) (hs' : s' < 4294967296) (ha : decB h s m = false) :
    Calls Try.prog 27 #[.agg #[.float .f32 h, .float .f32 s, .int .i64 m], .agg #[.float .f32 h', .float .f32 s', .int .i64 m']] w fun e w' => e = .returned (.tuple #[.agg #[.float .f32 0, .float .f32 0, .int .i64 0], .bool false]) ∧ Ext w w' := by
  have HH := Lib.hid hh
  have HS := Lib.hid hs
  have HH' := Lib.hid hh'
  have HS' := Lib.hid hs'
  have HA := Lib.hid ha
  have BA := Lib.hid (((Box.alloc w #[.float .f32 h, .float .f32 s, .int .i64 m] 26).past (.cells #[.float .f32 h', .float .f32 s', .int .i64 m'] 26)).past (.cells #[.float .f32 0, .float .f32 0, .int .i64 0] 26))
  have BB := Lib.hid ((Box.alloc_at (w.alloc (.cells #[.float .f32 h, .float .f32 s, .int .i64 m] 26)) #[.float .f32 h', .float .f32 s', .int .i64 m'] 26 (b := w.heap.size + 1) (by simp)).past (.cells #[.float .f32 0, .float .f32 0, .int .i64 0] 26))
  have BZ := Lib.hid (Box.alloc_at ((w.alloc (.cells #[.float .f32 h, .float .f32 s, .int .i64 m] 26)).alloc (.cells #[.float .f32 h', .float .f32 s', .int .i64 m'] 26)) #[.float .f32 0, .float .f32 0, .int .i64 0] 26 (b := w.heap.size + 2) (by simp))
  have X0 := Lib.hid ((((Ext.refl w).stepA (.cells #[.float .f32 h, .float .f32 s, .int .i64 m] 26)).stepA (.cells #[.float .f32 h', .float .f32 s', .int .i64 m'] 26)).stepA (.cells #[.float .f32 0, .float .f32 0, .int .i64 0] 26))
  obtain ⟨a0, a1, a2⟩ := BA.out.three
  obtain ⟨b0, b1, b2⟩ := BB.out.three
  clear hh hs hh' hs' ha
  go_enter Try.func27, Try.ntmps27
  go_wp2_with fail
  clear a0 a1 a2 b0 b1 b2
  refine (c_impl_ValidDecay h s m _ HA.out HH.out HS.out).mono ?_; rintro e w1 ⟨rfl, x1⟩
  have X1 := Lib.hid (X0.out.trans x1)
  have BA1 := Lib.hid (BA.out.on x1)
  have BB1 := Lib.hid (BB.out.on x1)
  have BZ1 := Lib.hid (BZ.out.on x1)
  clear x1
  obtain ⟨a0, a1, a2⟩ := BA1.out.three
  obtain ⟨b0, b1, b2⟩ := BB1.out.three
  obtain ⟨z0, z1, z2⟩ := BZ1.out.three
  obtain ⟨f0, f1, f2, f3⟩ := BZ1.out.free
  go_wp2
  refine bodyPost_ret (v := .tuple #[.agg #[.float .f32 0, .float .f32 0, .int .i64 0], .bool false]) (by simp [results, Try.results27, go_sem, z0, z1, z2]) rfl ⟨rfl, ?_⟩
  have := X1.out
  (repeat (first | assumption | exact Ext.refl _ | (with_reducible refine Ext.stepS ?_ (by first | exact Nat.le_refl _ | (simp; done) | (simp; omega)) _) | (with_reducible refine Ext.stepN ?_ _) | (with_reducible refine Ext.stepD ?_) | (with_reducible refine Ext.stepA ?_ _)))
set_option maxHeartbeats 8000000 in
theorem c_impl_JoinDecays_b (h s : Nat) (m : Int) (h' s' : Nat) (m' : Int) (w : World) (hh : h < 4294967296) (hs : s < 4294967296) (hh' : h' < 4294967296) (hs' : s' < 4294967296) (ha : decB h s m = true) (hb : decB h' s' m' = false) :
    Calls Try.prog 27 #[.agg #[.float .f32 h, .float .f32 s, .int .i64 m], .agg #[.float .f32 h', .float .f32 s', .int .i64 m']] w fun e w' => e = .returned (.tuple #[.agg #[.float .f32 0, .float .f32 0, .int .i64 0], .bool false]) ∧ Ext w w' := by
  have HH := Lib.hid hh
  have HS := Lib.hid hs
  have HH' := Lib.hid hh'
  have HS' := Lib.hid hs'
  have HA := Lib.hid ha
  have BA := Lib.hid (((Box.alloc w #[.float .f32 h, .float .f32 s, .int .i64 m] 26).past (.cells #[.float .f32 h', .float .f32 s', .int .i64 m'] 26)).past (.cells #[.float .f32 0, .float .f32 0, .int .i64 0] 26))
  have BB := Lib.hid ((Box.alloc_at (w.alloc (.cells #[.float .f32 h, .float .f32 s, .int .i64 m] 26)) #[.float .f32 h', .float .f32 s', .int .i64 m'] 26 (b := w.heap.size + 1) (by simp)).past (.cells #[.float .f32 0, .float .f32 0, .int .i64 0] 26))
  have BZ := Lib.hid (Box.alloc_at ((w.alloc (.cells #[.float .f32 h, .float .f32 s, .int .i64 m] 26)).alloc (.cells #[.float .f32 h', .float .f32 s', .int .i64 m'] 26)) #[.float .f32 0, .float .f32 0, .int .i64 0] 26 (b := w.heap.size + 2) (by simp))
  have X0 := Lib.hid ((((Ext.refl w).stepA (.cells #[.float .f32 h, .float .f32 s, .int .i64 m] 26)).stepA (.cells #[.float .f32 h', .float .f32 s', .int .i64 m'] 26)).stepA (.cells #[.float .f32 0, .float .f32 0, .int .i64 0] 26))
  obtain ⟨a0, a1, a2⟩ := BA.out.three
  obtain ⟨b0, b1, b2⟩ := BB.out.three
  have HB := Lib.hid hb
  clear hh hs hh' hs' ha hb
  go_enter Try.func27, Try.ntmps27
  go_wp2_with fail
  clear a0 a1 a2 b0 b1 b2
  refine (c_impl_ValidDecay h s m _ HA.out HH.out HS.out).mono ?_; rintro e w1 ⟨rfl, x1⟩
  have X1 := Lib.hid (X0.out.trans x1)
  have BA1 := Lib.hid (BA.out.on x1)
  have BB1 := Lib.hid (BB.out.on x1)
  have BZ1 := Lib.hid (BZ.out.on x1)
  clear x1
  obtain ⟨a0, a1, a2⟩ := BA1.out.three
  obtain ⟨b0, b1, b2⟩ := BB1.out.three
  obtain ⟨z0, z1, z2⟩ := BZ1.out.three
  obtain ⟨f0, f1, f2, f3⟩ := BZ1.out.free
  go_wp2_with fail
  clear a0 a1 a2 b0 b1 b2 z0 z1 z2 f0 f1 f2 f3
  refine (c_impl_ValidDecay h' s' m' _ HB.out HH'.out HS'.out).mono ?_; rintro e w2 ⟨rfl, x2⟩
  have X2 := Lib.hid (X1.out.trans x2)
  have BA2 := Lib.hid (BA1.out.on x2)
  have BB2 := Lib.hid (BB1.out.on x2)
  have BZ2 := Lib.hid (BZ1.out.on x2)
  clear x2
  obtain ⟨a0, a1, a2⟩ := BA2.out.three
  obtain ⟨b0, b1, b2⟩ := BB2.out.three
  obtain ⟨z0, z1, z2⟩ := BZ2.out.three
  obtain ⟨f0, f1, f2, f3⟩ := BZ2.out.free
  go_wp2
  refine bodyPost_ret (v := .tuple #[.agg #[.float .f32 0, .float .f32 0, .int .i64 0], .bool false]) (by simp [results, Try.results27, go_sem, z0, z1, z2]) rfl ⟨rfl, ?_⟩
  have := X2.out
  (repeat (first | assumption | exact Ext.refl _ | (with_reducible refine Ext.stepS ?_ (by first | exact Nat.le_refl _ | (simp; done) | (simp; omega)) _) | (with_reducible refine Ext.stepN ?_ _) | (with_reducible refine Ext.stepD ?_) | (with_reducible refine Ext.stepA ?_ _)))
set_option maxHeartbeats 8000000 in
theorem c_impl_JoinDecays_c (h s : Nat) (m : Int) (h' s' : Nat) (m' : Int) (w : World) (hh : h < 4294967296) (hs : s < 4294967296) (hh' : h' < 4294967296) (hs' : s' < 4294967296) (ha : decB h s m = true) (hb : decB h' s' m' = true) (he : (FloatKind.f32.format.order h h' == some .eq) = false) :
    Calls Try.prog 27 #[.agg #[.float .f32 h, .float .f32 s, .int .i64 m], .agg #[.float .f32 h', .float .f32 s', .int .i64 m']] w fun e w' => e = .returned (.tuple #[.agg #[.float .f32 0, .float .f32 0, .int .i64 0], .bool false]) ∧ Ext w w' := by
  have HH := Lib.hid hh
  have HS := Lib.hid hs
  have HH' := Lib.hid hh'
  have HS' := Lib.hid hs'
  have HA := Lib.hid ha
  have BA := Lib.hid (((Box.alloc w #[.float .f32 h, .float .f32 s, .int .i64 m] 26).past (.cells #[.float .f32 h', .float .f32 s', .int .i64 m'] 26)).past (.cells #[.float .f32 0, .float .f32 0, .int .i64 0] 26))
  have BB := Lib.hid ((Box.alloc_at (w.alloc (.cells #[.float .f32 h, .float .f32 s, .int .i64 m] 26)) #[.float .f32 h', .float .f32 s', .int .i64 m'] 26 (b := w.heap.size + 1) (by simp)).past (.cells #[.float .f32 0, .float .f32 0, .int .i64 0] 26))
  have BZ := Lib.hid (Box.alloc_at ((w.alloc (.cells #[.float .f32 h, .float .f32 s, .int .i64 m] 26)).alloc (.cells #[.float .f32 h', .float .f32 s', .int .i64 m'] 26)) #[.float .f32 0, .float .f32 0, .int .i64 0] 26 (b := w.heap.size + 2) (by simp))
  have X0 := Lib.hid ((((Ext.refl w).stepA (.cells #[.float .f32 h, .float .f32 s, .int .i64 m] 26)).stepA (.cells #[.float .f32 h', .float .f32 s', .int .i64 m'] 26)).stepA (.cells #[.float .f32 0, .float .f32 0, .int .i64 0] 26))
  obtain ⟨a0, a1, a2⟩ := BA.out.three
  obtain ⟨b0, b1, b2⟩ := BB.out.three
  have HB := Lib.hid hb
  have heb := bne_of_beq he
  clear hh hs hh' hs' ha hb
  go_enter Try.func27, Try.ntmps27
  go_wp2_with fail
  clear a0 a1 a2 b0 b1 b2
  refine (c_impl_ValidDecay h s m _ HA.out HH.out HS.out).mono ?_; rintro e w1 ⟨rfl, x1⟩
  have X1 := Lib.hid (X0.out.trans x1)
  have BA1 := Lib.hid (BA.out.on x1)
  have BB1 := Lib.hid (BB.out.on x1)
  have BZ1 := Lib.hid (BZ.out.on x1)
  clear x1
  obtain ⟨a0, a1, a2⟩ := BA1.out.three
  obtain ⟨b0, b1, b2⟩ := BB1.out.three
  obtain ⟨z0, z1, z2⟩ := BZ1.out.three
  obtain ⟨f0, f1, f2, f3⟩ := BZ1.out.free
  go_wp2_with fail
  clear a0 a1 a2 b0 b1 b2 z0 z1 z2 f0 f1 f2 f3
  refine (c_impl_ValidDecay h' s' m' _ HB.out HH'.out HS'.out).mono ?_; rintro e w2 ⟨rfl, x2⟩
  have X2 := Lib.hid (X1.out.trans x2)
  have BA2 := Lib.hid (BA1.out.on x2)
  have BB2 := Lib.hid (BB1.out.on x2)
  have BZ2 := Lib.hid (BZ1.out.on x2)
  clear x2
  obtain ⟨a0, a1, a2⟩ := BA2.out.three
  obtain ⟨b0, b1, b2⟩ := BB2.out.three
  obtain ⟨z0, z1, z2⟩ := BZ2.out.three
  obtain ⟨f0, f1, f2, f3⟩ := BZ2.out.free
  go_wp2
  refine bodyPost_ret (v := .tuple #[.agg #[.float .f32 0, .float .f32 0, .int .i64 0], .bool false]) (by simp [results, Try.results27, go_sem, z0, z1, z2]) rfl ⟨rfl, ?_⟩
  have := X2.out
  (repeat (first | assumption | exact Ext.refl _ | (with_reducible refine Ext.stepS ?_ (by first | exact Nat.le_refl _ | (simp; done) | (simp; omega)) _) | (with_reducible refine Ext.stepN ?_ _) | (with_reducible refine Ext.stepD ?_) | (with_reducible refine Ext.stepA ?_ _)))
set_option maxHeartbeats 8000000 in
theorem c_impl_JoinDecays_df (h s : Nat) (m : Int) (h' s' : Nat) (m' : Int) (w : World) (hh : h < 4294967296) (hs : s < 4294967296) (hh' : h' < 4294967296) (hs' : s' < 4294967296) (ha : decB h s m = true) (hb : decB h' s' m' = true) (he : (FloatKind.f32.format.order h h' == some .eq) = true) (mk : Int) (hk : max m m' = mk) (l x0 ex v : Nat) (hR : DecR h s (mk - m) l x0 ex v) (l' x0' ex' v' : Nat) (hR' : DecR h' s' (mk - m') l' x0' ex' v') (u : Nat) (hu : floatBits .add .f32 v v' = some u) (hub : isFin .f32 u = false) :
    Calls Try.prog 27 #[.agg #[.float .f32 h, .float .f32 s, .int .i64 m], .agg #[.float .f32 h', .float .f32 s', .int .i64 m']] w fun e w' => e = .returned (.tuple #[.agg #[.float .f32 0, .float .f32 0, .int .i64 0], .bool false]) ∧ Ext w w' := by
  have HH := Lib.hid hh
  have HS := Lib.hid hs
  have HH' := Lib.hid hh'
  have HS' := Lib.hid hs'
  have HA := Lib.hid ha
  have BA := Lib.hid (((Box.alloc w #[.float .f32 h, .float .f32 s, .int .i64 m] 26).past (.cells #[.float .f32 h', .float .f32 s', .int .i64 m'] 26)).past (.cells #[.float .f32 0, .float .f32 0, .int .i64 0] 26))
  have BB := Lib.hid ((Box.alloc_at (w.alloc (.cells #[.float .f32 h, .float .f32 s, .int .i64 m] 26)) #[.float .f32 h', .float .f32 s', .int .i64 m'] 26 (b := w.heap.size + 1) (by simp)).past (.cells #[.float .f32 0, .float .f32 0, .int .i64 0] 26))
  have BZ := Lib.hid (Box.alloc_at ((w.alloc (.cells #[.float .f32 h, .float .f32 s, .int .i64 m] 26)).alloc (.cells #[.float .f32 h', .float .f32 s', .int .i64 m'] 26)) #[.float .f32 0, .float .f32 0, .int .i64 0] 26 (b := w.heap.size + 2) (by simp))
  have X0 := Lib.hid ((((Ext.refl w).stepA (.cells #[.float .f32 h, .float .f32 s, .int .i64 m] 26)).stepA (.cells #[.float .f32 h', .float .f32 s', .int .i64 m'] 26)).stepA (.cells #[.float .f32 0, .float .f32 0, .int .i64 0] 26))
  obtain ⟨a0, a1, a2⟩ := BA.out.three
  obtain ⟨b0, b1, b2⟩ := BB.out.three
  have HB := Lib.hid hb
  have heb := bne_of_beq he
  have HDR := Lib.hid hR
  have HDR' := Lib.hid hR'
  have HK := Lib.hid hk
  have hm1 : ∀ wx : World, (binOp .add 22 (.float .f32 v) (.float .f32 v')).run Try.prog wx = .ok (.float .f32 u) wx := fun wx => by
    rw [run_fl_add, flR_some hu, flD_some hu, World.drewN_zero]
  have HU := Lib.hid (show u < 4294967296 from bits_lt hu w)
  have oka := dec_ok ha
  have okb := dec_ok hb
  have HAA := Lib.hid (show decAtB h s m mk = true by unfold decAtB; rw [ha, inB_isD.2 ⟨by omega, by have := oka.m1; have := okb.m1; omega⟩]; rfl)
  have HAB := Lib.hid (show decAtB h' s' m' mk = true by unfold decAtB; rw [hb, inB_isD.2 ⟨by omega, by have := oka.m1; have := okb.m1; omega⟩]; rfl)
  have HV := Lib.hid (show decB h u mk = false by unfold decB aboveB gt0; rw [oka.fh, oka.gt, hub, inB_isD.2 ⟨by have := oka.m0; omega, by have := oka.m1; have := okb.m1; omega⟩]; rfl)
  clear hh hs hh' hs' ha hb hR hR' hu hub oka okb hk
  go_enter Try.func27, Try.ntmps27
  go_wp2_with fail
  clear a0 a1 a2 b0 b1 b2
  refine (c_impl_ValidDecay h s m _ HA.out HH.out HS.out).mono ?_; rintro e w1 ⟨rfl, x1⟩
  have X1 := Lib.hid (X0.out.trans x1)
  have BA1 := Lib.hid (BA.out.on x1)
  have BB1 := Lib.hid (BB.out.on x1)
  have BZ1 := Lib.hid (BZ.out.on x1)
  clear x1
  obtain ⟨a0, a1, a2⟩ := BA1.out.three
  obtain ⟨b0, b1, b2⟩ := BB1.out.three
  obtain ⟨z0, z1, z2⟩ := BZ1.out.three
  obtain ⟨f0, f1, f2, f3⟩ := BZ1.out.free
  go_wp2_with fail
  clear a0 a1 a2 b0 b1 b2 z0 z1 z2 f0 f1 f2 f3
  refine (c_impl_ValidDecay h' s' m' _ HB.out HH'.out HS'.out).mono ?_; rintro e w2 ⟨rfl, x2⟩
  have X2 := Lib.hid (X1.out.trans x2)
  have BA2 := Lib.hid (BA1.out.on x2)
  have BB2 := Lib.hid (BB1.out.on x2)
  have BZ2 := Lib.hid (BZ1.out.on x2)
  clear x2
  obtain ⟨a0, a1, a2⟩ := BA2.out.three
  obtain ⟨b0, b1, b2⟩ := BB2.out.three
  obtain ⟨z0, z1, z2⟩ := BZ2.out.three
  obtain ⟨f0, f1, f2, f3⟩ := BZ2.out.free
  have hif : (if m < m' then m' else m) = mk := by have := HK.out; split <;> omega
  go_upto_region 5 with fail
  obtain ⟨u0, hu0⟩ : ∃ u0, w2.alloc (.cells #[.int .i64 mk] 2) = u0 := ⟨_, rfl⟩
  have XU := Lib.hid (show Ext w u0 by rw [← hu0]; exact X2.out.stepA _)
  have UA := Lib.hid (show Box u0 w.heap.size 26 #[.float .f32 h, .float .f32 s, .int .i64 m] by rw [← hu0]; exact BA2.out.past _)
  have UB := Lib.hid (show Box u0 (w.heap.size + 1) 26 #[.float .f32 h', .float .f32 s', .int .i64 m'] by rw [← hu0]; exact BB2.out.past _)
  have UZ := Lib.hid (show Box u0 (w.heap.size + 2) 26 #[.float .f32 0, .float .f32 0, .int .i64 0] by rw [← hu0]; exact BZ2.out.past _)
  have UM := Lib.hid (show u0.cell? ⟨w2.heap.size, 0, none⟩ = some (.int .i64 mk) by rw [← hu0]; simp)
  have n1 : w.heap.size ≠ w.heap.size + 1 + 1 := by omega
  have n2 : w.heap.size + 1 + 1 ≠ w.heap.size := by omega
  have n3 : w2.heap.size ≠ w.heap.size + 1 + 1 := by have := BZ2.out.lt; omega
  have n4 : w.heap.size + 1 + 1 ≠ w2.heap.size := by have := BZ2.out.lt; omega
  rw [hu0]
  clear hu0 hif a0 a1 a2 b0 b1 b2 z0 z1 z2 f0 f1 f2 f3
  obtain ⟨a0, a1, a2⟩ := UA.out.three
  obtain ⟨b0, b1, b2⟩ := UB.out.three
  have c0 := UM.out
  first | (go_region_held3 (fun w' => w'.cell? ⟨w.heap.size, 0, none⟩ = some (.float .f32 h) ∧ w'.cell? ⟨w.heap.size, 1, none⟩ = some (.float .f32 s) ∧ w'.cell? ⟨w.heap.size, 2, none⟩ = some (.int .i64 m) ∧ w'.cell? ⟨w.heap.size + 1, 0, none⟩ = some (.float .f32 h') ∧ w'.cell? ⟨w.heap.size + 1, 1, none⟩ = some (.float .f32 s') ∧ w'.cell? ⟨w.heap.size + 1, 2, none⟩ = some (.int .i64 m') ∧ w'.cell? ⟨w2.heap.size, 0, none⟩ = some (.int .i64 mk)) (first | exact KA | go_keep) (first | (go_at_call_of 65 (Value.agg #[.float .f32 h, .float .f32 s, .int .i64 m]); refine (c_sumOfDecay h s m mk w2.heap.size l x0 ex v _ HAA.out HDR.out HH.out HS.out (Ext.some (by (repeat (first | assumption | exact Ext.refl _ | (with_reducible refine Ext.stepS ?_ (by first | exact Nat.le_refl _ | (simp; done) | (simp; omega)) _) | (with_reducible refine Ext.stepN ?_ _) | (with_reducible refine Ext.stepD ?_) | (with_reducible refine Ext.stepA ?_ _)))) UM.out)).mono ?_; rintro e v1 ⟨rfl, x1⟩; have EA : Ext u0 v1 := Ext.trans (by (repeat (first | assumption | exact Ext.refl _ | (with_reducible refine Ext.stepS ?_ (by first | exact Nat.le_refl _ | (simp; done) | (simp; omega)) _) | (with_reducible refine Ext.stepN ?_ _) | (with_reducible refine Ext.stepD ?_) | (with_reducible refine Ext.stepA ?_ _)))) x1; have K1 := (UA.out.on EA).three; have K2 := (UB.out.on EA).three; have K3 := Ext.some EA UM.out; have KA := And.intro K1.1 (And.intro K1.2.1 (And.intro K1.2.2 (And.intro K2.1 (And.intro K2.2.1 (And.intro K2.2.2 K3))))); clear x1 K1 K2 K3) | (go_at_call_of 65 (Value.agg #[.float .f32 h', .float .f32 s', .int .i64 m']); refine (c_sumOfDecay h' s' m' mk w2.heap.size l' x0' ex' v' _ HAB.out HDR'.out HH'.out HS'.out (Ext.some (by (repeat (first | assumption | exact Ext.refl _ | (with_reducible refine Ext.stepS ?_ (by first | exact Nat.le_refl _ | (simp; done) | (simp; omega)) _) | (with_reducible refine Ext.stepN ?_ _) | (with_reducible refine Ext.stepD ?_) | (with_reducible refine Ext.stepA ?_ _)))) UM.out)).mono ?_; rintro e v2 ⟨rfl, x1⟩; have EB : Ext u0 v2 := Ext.trans (by (repeat (first | assumption | exact Ext.refl _ | (with_reducible refine Ext.stepS ?_ (by first | exact Nat.le_refl _ | (simp; done) | (simp; omega)) _) | (with_reducible refine Ext.stepN ?_ _) | (with_reducible refine Ext.stepD ?_) | (with_reducible refine Ext.stepA ?_ _)))) x1; have K1 := (UA.out.on EB).three; have K2 := (UB.out.on EB).three; have K3 := Ext.some EB UM.out; have KA := And.intro K1.1 (And.intro K1.2.1 (And.intro K1.2.2 (And.intro K2.1 (And.intro K2.2.1 (And.intro K2.2.2 K3))))); clear x1 K1 K2 K3) | (go_at_call 63; refine (c_impl_decayIfValid_false h u mk _ HV.out HH.out HU.out).mono ?_; rintro e v3 ⟨rfl, x1⟩; have EC : Ext u0 v3 := Ext.trans (by (repeat (first | assumption | exact Ext.refl _ | (with_reducible refine Ext.stepS ?_ (by first | exact Nat.le_refl _ | (simp; done) | (simp; omega)) _) | (with_reducible refine Ext.stepN ?_ _) | (with_reducible refine Ext.stepD ?_) | (with_reducible refine Ext.stepA ?_ _)))) x1; have K1 := (UA.out.on EC).three; have K2 := (UB.out.on EC).three; have K3 := Ext.some EC UM.out; have KA := And.intro K1.1 (And.intro K1.2.1 (And.intro K1.2.2 (And.intro K2.1 (And.intro K2.2.1 (And.intro K2.2.2 K3))))); clear x1 K1 K2 K3; obtain ⟨z0, z1, z2⟩ := (UZ.out.on EC).three; obtain ⟨f0, f1, f2, f3⟩ := (UZ.out.on EC).free))) | fail
  all_goals
    have XC := XU.out.trans EC
    go_wp2
    refine bodyPost_ret (v := .tuple #[.agg #[.float .f32 0, .float .f32 0, .int .i64 0], .bool false]) (by simp [results, Try.results27, go_sem, z0, z1, z2]) rfl ⟨rfl, ?_⟩
    (repeat (first | assumption | exact Ext.refl _ | (with_reducible refine Ext.stepS ?_ (by first | exact Nat.le_refl _ | (simp; done) | (simp; omega)) _) | (with_reducible refine Ext.stepN ?_ _) | (with_reducible refine Ext.stepD ?_) | (with_reducible refine Ext.stepA ?_ _)))
set_option maxHeartbeats 8000000 in
theorem c_impl_JoinDecays_dt (h s : Nat) (m : Int) (h' s' : Nat) (m' : Int) (w : World) (hh : h < 4294967296) (hs : s < 4294967296) (hh' : h' < 4294967296) (hs' : s' < 4294967296) (ha : decB h s m = true) (hb : decB h' s' m' = true) (he : (FloatKind.f32.format.order h h' == some .eq) = true) (mk : Int) (hk : max m m' = mk) (l x0 ex v : Nat) (hR : DecR h s (mk - m) l x0 ex v) (l' x0' ex' v' : Nat) (hR' : DecR h' s' (mk - m') l' x0' ex' v') (u : Nat) (hu : floatBits .add .f32 v v' = some u) (hub : isFin .f32 u = true) :
    Calls Try.prog 27 #[.agg #[.float .f32 h, .float .f32 s, .int .i64 m], .agg #[.float .f32 h', .float .f32 s', .int .i64 m']] w fun e w' => e = .returned (.tuple #[.agg #[.float .f32 h, .float .f32 u, .int .i64 mk], .bool true]) ∧ Ext w w' := by
  have HH := Lib.hid hh
  have HS := Lib.hid hs
  have HH' := Lib.hid hh'
  have HS' := Lib.hid hs'
  have HA := Lib.hid ha
  have BA := Lib.hid (((Box.alloc w #[.float .f32 h, .float .f32 s, .int .i64 m] 26).past (.cells #[.float .f32 h', .float .f32 s', .int .i64 m'] 26)).past (.cells #[.float .f32 0, .float .f32 0, .int .i64 0] 26))
  have BB := Lib.hid ((Box.alloc_at (w.alloc (.cells #[.float .f32 h, .float .f32 s, .int .i64 m] 26)) #[.float .f32 h', .float .f32 s', .int .i64 m'] 26 (b := w.heap.size + 1) (by simp)).past (.cells #[.float .f32 0, .float .f32 0, .int .i64 0] 26))
  have BZ := Lib.hid (Box.alloc_at ((w.alloc (.cells #[.float .f32 h, .float .f32 s, .int .i64 m] 26)).alloc (.cells #[.float .f32 h', .float .f32 s', .int .i64 m'] 26)) #[.float .f32 0, .float .f32 0, .int .i64 0] 26 (b := w.heap.size + 2) (by simp))
  have X0 := Lib.hid ((((Ext.refl w).stepA (.cells #[.float .f32 h, .float .f32 s, .int .i64 m] 26)).stepA (.cells #[.float .f32 h', .float .f32 s', .int .i64 m'] 26)).stepA (.cells #[.float .f32 0, .float .f32 0, .int .i64 0] 26))
  obtain ⟨a0, a1, a2⟩ := BA.out.three
  obtain ⟨b0, b1, b2⟩ := BB.out.three
  have HB := Lib.hid hb
  have heb := bne_of_beq he
  have HDR := Lib.hid hR
  have HDR' := Lib.hid hR'
  have HK := Lib.hid hk
  have hm1 : ∀ wx : World, (binOp .add 22 (.float .f32 v) (.float .f32 v')).run Try.prog wx = .ok (.float .f32 u) wx := fun wx => by
    rw [run_fl_add, flR_some hu, flD_some hu, World.drewN_zero]
  have HU := Lib.hid (show u < 4294967296 from bits_lt hu w)
  have oka := dec_ok ha
  have okb := dec_ok hb
  have HAA := Lib.hid (show decAtB h s m mk = true by unfold decAtB; rw [ha, inB_isD.2 ⟨by omega, by have := oka.m1; have := okb.m1; omega⟩]; rfl)
  have HAB := Lib.hid (show decAtB h' s' m' mk = true by unfold decAtB; rw [hb, inB_isD.2 ⟨by omega, by have := oka.m1; have := okb.m1; omega⟩]; rfl)
  have HV := Lib.hid (show decB h u mk = true by unfold decB aboveB gt0; rw [oka.fh, oka.gt, hub, inB_isD.2 ⟨by have := oka.m0; omega, by have := oka.m1; have := okb.m1; omega⟩]; rfl)
  clear hh hs hh' hs' ha hb hR hR' hu hub oka okb hk
  go_enter Try.func27, Try.ntmps27
  go_wp2_with fail
  clear a0 a1 a2 b0 b1 b2
  refine (c_impl_ValidDecay h s m _ HA.out HH.out HS.out).mono ?_; rintro e w1 ⟨rfl, x1⟩
  have X1 := Lib.hid (X0.out.trans x1)
  have BA1 := Lib.hid (BA.out.on x1)
  have BB1 := Lib.hid (BB.out.on x1)
  have BZ1 := Lib.hid (BZ.out.on x1)
  clear x1
  obtain ⟨a0, a1, a2⟩ := BA1.out.three
  obtain ⟨b0, b1, b2⟩ := BB1.out.three
  obtain ⟨z0, z1, z2⟩ := BZ1.out.three
  obtain ⟨f0, f1, f2, f3⟩ := BZ1.out.free
  go_wp2_with fail
  clear a0 a1 a2 b0 b1 b2 z0 z1 z2 f0 f1 f2 f3
  refine (c_impl_ValidDecay h' s' m' _ HB.out HH'.out HS'.out).mono ?_; rintro e w2 ⟨rfl, x2⟩
  have X2 := Lib.hid (X1.out.trans x2)
  have BA2 := Lib.hid (BA1.out.on x2)
  have BB2 := Lib.hid (BB1.out.on x2)
  have BZ2 := Lib.hid (BZ1.out.on x2)
  clear x2
  obtain ⟨a0, a1, a2⟩ := BA2.out.three
  obtain ⟨b0, b1, b2⟩ := BB2.out.three
  obtain ⟨z0, z1, z2⟩ := BZ2.out.three
  obtain ⟨f0, f1, f2, f3⟩ := BZ2.out.free
  have hif : (if m < m' then m' else m) = mk := by have := HK.out; split <;> omega
  go_upto_region 5 with fail
  obtain ⟨u0, hu0⟩ : ∃ u0, w2.alloc (.cells #[.int .i64 mk] 2) = u0 := ⟨_, rfl⟩
  have XU := Lib.hid (show Ext w u0 by rw [← hu0]; exact X2.out.stepA _)
  have UA := Lib.hid (show Box u0 w.heap.size 26 #[.float .f32 h, .float .f32 s, .int .i64 m] by rw [← hu0]; exact BA2.out.past _)
  have UB := Lib.hid (show Box u0 (w.heap.size + 1) 26 #[.float .f32 h', .float .f32 s', .int .i64 m'] by rw [← hu0]; exact BB2.out.past _)
  have UZ := Lib.hid (show Box u0 (w.heap.size + 2) 26 #[.float .f32 0, .float .f32 0, .int .i64 0] by rw [← hu0]; exact BZ2.out.past _)
  have UM := Lib.hid (show u0.cell? ⟨w2.heap.size, 0, none⟩ = some (.int .i64 mk) by rw [← hu0]; simp)
  have n1 : w.heap.size ≠ w.heap.size + 1 + 1 := by omega
  have n2 : w.heap.size + 1 + 1 ≠ w.heap.size := by omega
  have n3 : w2.heap.size ≠ w.heap.size + 1 + 1 := by have := BZ2.out.lt; omega
  have n4 : w.heap.size + 1 + 1 ≠ w2.heap.size := by have := BZ2.out.lt; omega
  rw [hu0]
  clear hu0 hif a0 a1 a2 b0 b1 b2 z0 z1 z2 f0 f1 f2 f3
  obtain ⟨a0, a1, a2⟩ := UA.out.three
  obtain ⟨b0, b1, b2⟩ := UB.out.three
  have c0 := UM.out
  first | (go_region_held3 (fun w' => w'.cell? ⟨w.heap.size, 0, none⟩ = some (.float .f32 h) ∧ w'.cell? ⟨w.heap.size, 1, none⟩ = some (.float .f32 s) ∧ w'.cell? ⟨w.heap.size, 2, none⟩ = some (.int .i64 m) ∧ w'.cell? ⟨w.heap.size + 1, 0, none⟩ = some (.float .f32 h') ∧ w'.cell? ⟨w.heap.size + 1, 1, none⟩ = some (.float .f32 s') ∧ w'.cell? ⟨w.heap.size + 1, 2, none⟩ = some (.int .i64 m') ∧ w'.cell? ⟨w2.heap.size, 0, none⟩ = some (.int .i64 mk)) (first | exact KA | go_keep) (first | (go_at_call_of 65 (Value.agg #[.float .f32 h, .float .f32 s, .int .i64 m]); refine (c_sumOfDecay h s m mk w2.heap.size l x0 ex v _ HAA.out HDR.out HH.out HS.out (Ext.some (by (repeat (first | assumption | exact Ext.refl _ | (with_reducible refine Ext.stepS ?_ (by first | exact Nat.le_refl _ | (simp; done) | (simp; omega)) _) | (with_reducible refine Ext.stepN ?_ _) | (with_reducible refine Ext.stepD ?_) | (with_reducible refine Ext.stepA ?_ _)))) UM.out)).mono ?_; rintro e v1 ⟨rfl, x1⟩; have EA : Ext u0 v1 := Ext.trans (by (repeat (first | assumption | exact Ext.refl _ | (with_reducible refine Ext.stepS ?_ (by first | exact Nat.le_refl _ | (simp; done) | (simp; omega)) _) | (with_reducible refine Ext.stepN ?_ _) | (with_reducible refine Ext.stepD ?_) | (with_reducible refine Ext.stepA ?_ _)))) x1; have K1 := (UA.out.on EA).three; have K2 := (UB.out.on EA).three; have K3 := Ext.some EA UM.out; have KA := And.intro K1.1 (And.intro K1.2.1 (And.intro K1.2.2 (And.intro K2.1 (And.intro K2.2.1 (And.intro K2.2.2 K3))))); clear x1 K1 K2 K3) | (go_at_call_of 65 (Value.agg #[.float .f32 h', .float .f32 s', .int .i64 m']); refine (c_sumOfDecay h' s' m' mk w2.heap.size l' x0' ex' v' _ HAB.out HDR'.out HH'.out HS'.out (Ext.some (by (repeat (first | assumption | exact Ext.refl _ | (with_reducible refine Ext.stepS ?_ (by first | exact Nat.le_refl _ | (simp; done) | (simp; omega)) _) | (with_reducible refine Ext.stepN ?_ _) | (with_reducible refine Ext.stepD ?_) | (with_reducible refine Ext.stepA ?_ _)))) UM.out)).mono ?_; rintro e v2 ⟨rfl, x1⟩; have EB : Ext u0 v2 := Ext.trans (by (repeat (first | assumption | exact Ext.refl _ | (with_reducible refine Ext.stepS ?_ (by first | exact Nat.le_refl _ | (simp; done) | (simp; omega)) _) | (with_reducible refine Ext.stepN ?_ _) | (with_reducible refine Ext.stepD ?_) | (with_reducible refine Ext.stepA ?_ _)))) x1; have K1 := (UA.out.on EB).three; have K2 := (UB.out.on EB).three; have K3 := Ext.some EB UM.out; have KA := And.intro K1.1 (And.intro K1.2.1 (And.intro K1.2.2 (And.intro K2.1 (And.intro K2.2.1 (And.intro K2.2.2 K3))))); clear x1 K1 K2 K3) | (go_at_call 63; refine (c_impl_decayIfValid_true h u mk _ HV.out HH.out HU.out).mono ?_; rintro e v3 ⟨rfl, x1⟩; have EC : Ext u0 v3 := Ext.trans (by (repeat (first | assumption | exact Ext.refl _ | (with_reducible refine Ext.stepS ?_ (by first | exact Nat.le_refl _ | (simp; done) | (simp; omega)) _) | (with_reducible refine Ext.stepN ?_ _) | (with_reducible refine Ext.stepD ?_) | (with_reducible refine Ext.stepA ?_ _)))) x1; have K1 := (UA.out.on EC).three; have K2 := (UB.out.on EC).three; have K3 := Ext.some EC UM.out; have KA := And.intro K1.1 (And.intro K1.2.1 (And.intro K1.2.2 (And.intro K2.1 (And.intro K2.2.1 (And.intro K2.2.2 K3))))); clear x1 K1 K2 K3; obtain ⟨z0, z1, z2⟩ := (UZ.out.on EC).three; obtain ⟨f0, f1, f2, f3⟩ := (UZ.out.on EC).free))) | fail
  all_goals
    have XC := XU.out.trans EC
    go_wp2
    refine bodyPost_ret (v := .tuple #[.agg #[.float .f32 h, .float .f32 u, .int .i64 mk], .bool true]) (by simp [results, Try.results27, go_sem, z0, z1, z2]) rfl ⟨rfl, ?_⟩
    (repeat (first | assumption | exact Ext.refl _ | (with_reducible refine Ext.stepS ?_ (by first | exact Nat.le_refl _ | (simp; done) | (simp; omega)) _) | (with_reducible refine Ext.stepN ?_ _) | (with_reducible refine Ext.stepD ?_) | (with_reducible refine Ext.stepA ?_ _)))
set_option maxHeartbeats 8000000 in
theorem c_spec_JoinDecays_a (h s : Nat) (m : Int) (h' s' : Nat) (m' : Int) (w : World) (hh : h < 4294967296) (hs : s < 4294967296) (hh' : h' < 4294967296) (hs' : s' < 4294967296) (ha : decB h s m = false) :
    Calls Try.prog 26 #[.agg #[.float .f32 h, .float .f32 s, .int .i64 m], .agg #[.float .f32 h', .float .f32 s', .int .i64 m']] w fun e w' => e = .returned (.tuple #[.agg #[.float .f32 0, .float .f32 0, .int .i64 0], .bool false]) ∧ Ext w w' := by
  have HH := Lib.hid hh
  have HS := Lib.hid hs
  have HH' := Lib.hid hh'
  have HS' := Lib.hid hs'
  have HA := Lib.hid ha
  have BA := Lib.hid (((Box.alloc w #[.float .f32 h, .float .f32 s, .int .i64 m] 26).past (.cells #[.float .f32 h', .float .f32 s', .int .i64 m'] 26)).past (.cells #[.float .f32 0, .float .f32 0, .int .i64 0] 26))
  have BB := Lib.hid ((Box.alloc_at (w.alloc (.cells #[.float .f32 h, .float .f32 s, .int .i64 m] 26)) #[.float .f32 h', .float .f32 s', .int .i64 m'] 26 (b := w.heap.size + 1) (by simp)).past (.cells #[.float .f32 0, .float .f32 0, .int .i64 0] 26))
  have BZ := Lib.hid (Box.alloc_at ((w.alloc (.cells #[.float .f32 h, .float .f32 s, .int .i64 m] 26)).alloc (.cells #[.float .f32 h', .float .f32 s', .int .i64 m'] 26)) #[.float .f32 0, .float .f32 0, .int .i64 0] 26 (b := w.heap.size + 2) (by simp))
  have X0 := Lib.hid ((((Ext.refl w).stepA (.cells #[.float .f32 h, .float .f32 s, .int .i64 m] 26)).stepA (.cells #[.float .f32 h', .float .f32 s', .int .i64 m'] 26)).stepA (.cells #[.float .f32 0, .float .f32 0, .int .i64 0] 26))
  obtain ⟨a0, a1, a2⟩ := BA.out.three
  obtain ⟨b0, b1, b2⟩ := BB.out.three
  clear hh hs hh' hs' ha
  go_enter Try.func26, Try.ntmps26
  go_wp2_with fail
  clear a0 a1 a2 b0 b1 b2
  refine (c_spec_l06Decay _ h s m _ HA.out BA.out).mono ?_; rintro e w1 ⟨rfl, x1⟩
  have X1 := Lib.hid (X0.out.trans x1)
  have BA1 := Lib.hid (BA.out.on x1)
  have BB1 := Lib.hid (BB.out.on x1)
  have BZ1 := Lib.hid (BZ.out.on x1)
  clear x1
  obtain ⟨a0, a1, a2⟩ := BA1.out.three
  obtain ⟨b0, b1, b2⟩ := BB1.out.three
  obtain ⟨z0, z1, z2⟩ := BZ1.out.three
  obtain ⟨f0, f1, f2, f3⟩ := BZ1.out.free
  go_wp2
  refine bodyPost_ret (v := .tuple #[.agg #[.float .f32 0, .float .f32 0, .int .i64 0], .bool false]) (by simp [results, Try.results26, go_sem, z0, z1, z2]) rfl ⟨rfl, ?_⟩
  have := X1.out
  (repeat (first | assumption | exact Ext.refl _ | (with_reducible refine Ext.stepS ?_ (by first | exact Nat.le_refl _ | (simp; done) | (simp; omega)) _) | (with_reducible refine Ext.stepN ?_ _) | (with_reducible refine Ext.stepD ?_) | (with_reducible refine Ext.stepA ?_ _)))
set_option maxHeartbeats 8000000 in
theorem c_spec_JoinDecays_b (h s : Nat) (m : Int) (h' s' : Nat) (m' : Int) (w : World) (hh : h < 4294967296) (hs : s < 4294967296) (hh' : h' < 4294967296) (hs' : s' < 4294967296) (ha : decB h s m = true) (hb : decB h' s' m' = false) :
    Calls Try.prog 26 #[.agg #[.float .f32 h, .float .f32 s, .int .i64 m], .agg #[.float .f32 h', .float .f32 s', .int .i64 m']] w fun e w' => e = .returned (.tuple #[.agg #[.float .f32 0, .float .f32 0, .int .i64 0], .bool false]) ∧ Ext w w' := by
  have HH := Lib.hid hh
  have HS := Lib.hid hs
  have HH' := Lib.hid hh'
  have HS' := Lib.hid hs'
  have HA := Lib.hid ha
  have BA := Lib.hid (((Box.alloc w #[.float .f32 h, .float .f32 s, .int .i64 m] 26).past (.cells #[.float .f32 h', .float .f32 s', .int .i64 m'] 26)).past (.cells #[.float .f32 0, .float .f32 0, .int .i64 0] 26))
  have BB := Lib.hid ((Box.alloc_at (w.alloc (.cells #[.float .f32 h, .float .f32 s, .int .i64 m] 26)) #[.float .f32 h', .float .f32 s', .int .i64 m'] 26 (b := w.heap.size + 1) (by simp)).past (.cells #[.float .f32 0, .float .f32 0, .int .i64 0] 26))
  have BZ := Lib.hid (Box.alloc_at ((w.alloc (.cells #[.float .f32 h, .float .f32 s, .int .i64 m] 26)).alloc (.cells #[.float .f32 h', .float .f32 s', .int .i64 m'] 26)) #[.float .f32 0, .float .f32 0, .int .i64 0] 26 (b := w.heap.size + 2) (by simp))
  have X0 := Lib.hid ((((Ext.refl w).stepA (.cells #[.float .f32 h, .float .f32 s, .int .i64 m] 26)).stepA (.cells #[.float .f32 h', .float .f32 s', .int .i64 m'] 26)).stepA (.cells #[.float .f32 0, .float .f32 0, .int .i64 0] 26))
  obtain ⟨a0, a1, a2⟩ := BA.out.three
  obtain ⟨b0, b1, b2⟩ := BB.out.three
  have HB := Lib.hid hb
  clear hh hs hh' hs' ha hb
  go_enter Try.func26, Try.ntmps26
  go_wp2_with fail
  clear a0 a1 a2 b0 b1 b2
  refine (c_spec_l06Decay _ h s m _ HA.out BA.out).mono ?_; rintro e w1 ⟨rfl, x1⟩
  have X1 := Lib.hid (X0.out.trans x1)
  have BA1 := Lib.hid (BA.out.on x1)
  have BB1 := Lib.hid (BB.out.on x1)
  have BZ1 := Lib.hid (BZ.out.on x1)
  clear x1
  obtain ⟨a0, a1, a2⟩ := BA1.out.three
  obtain ⟨b0, b1, b2⟩ := BB1.out.three
  obtain ⟨z0, z1, z2⟩ := BZ1.out.three
  obtain ⟨f0, f1, f2, f3⟩ := BZ1.out.free
  go_wp2_with fail
  clear a0 a1 a2 b0 b1 b2 z0 z1 z2 f0 f1 f2 f3
  refine (c_spec_l06Decay _ h' s' m' _ HB.out BB1.out).mono ?_; rintro e w2 ⟨rfl, x2⟩
  have X2 := Lib.hid (X1.out.trans x2)
  have BA2 := Lib.hid (BA1.out.on x2)
  have BB2 := Lib.hid (BB1.out.on x2)
  have BZ2 := Lib.hid (BZ1.out.on x2)
  clear x2
  obtain ⟨a0, a1, a2⟩ := BA2.out.three
  obtain ⟨b0, b1, b2⟩ := BB2.out.three
  obtain ⟨z0, z1, z2⟩ := BZ2.out.three
  obtain ⟨f0, f1, f2, f3⟩ := BZ2.out.free
  go_wp2
  refine bodyPost_ret (v := .tuple #[.agg #[.float .f32 0, .float .f32 0, .int .i64 0], .bool false]) (by simp [results, Try.results26, go_sem, z0, z1, z2]) rfl ⟨rfl, ?_⟩
  have := X2.out
  (repeat (first | assumption | exact Ext.refl _ | (with_reducible refine Ext.stepS ?_ (by first | exact Nat.le_refl _ | (simp; done) | (simp; omega)) _) | (with_reducible refine Ext.stepN ?_ _) | (with_reducible refine Ext.stepD ?_) | (with_reducible refine Ext.stepA ?_ _)))
set_option maxHeartbeats 8000000 in
theorem c_spec_JoinDecays_c (h s : Nat) (m : Int) (h' s' : Nat) (m' : Int) (w : World) (hh : h < 4294967296) (hs : s < 4294967296) (hh' : h' < 4294967296) (hs' : s' < 4294967296) (ha : decB h s m = true) (hb : decB h' s' m' = true) (he : (FloatKind.f32.format.order h h' == some .eq) = false) :
    Calls Try.prog 26 #[.agg #[.float .f32 h, .float .f32 s, .int .i64 m], .agg #[.float .f32 h', .float .f32 s', .int .i64 m']] w fun e w' => e = .returned (.tuple #[.agg #[.float .f32 0, .float .f32 0, .int .i64 0], .bool false]) ∧ Ext w w' := by
  have HH := Lib.hid hh
  have HS := Lib.hid hs
  have HH' := Lib.hid hh'
  have HS' := Lib.hid hs'
  have HA := Lib.hid ha
  have BA := Lib.hid (((Box.alloc w #[.float .f32 h, .float .f32 s, .int .i64 m] 26).past (.cells #[.float .f32 h', .float .f32 s', .int .i64 m'] 26)).past (.cells #[.float .f32 0, .float .f32 0, .int .i64 0] 26))
  have BB := Lib.hid ((Box.alloc_at (w.alloc (.cells #[.float .f32 h, .float .f32 s, .int .i64 m] 26)) #[.float .f32 h', .float .f32 s', .int .i64 m'] 26 (b := w.heap.size + 1) (by simp)).past (.cells #[.float .f32 0, .float .f32 0, .int .i64 0] 26))
  have BZ := Lib.hid (Box.alloc_at ((w.alloc (.cells #[.float .f32 h, .float .f32 s, .int .i64 m] 26)).alloc (.cells #[.float .f32 h', .float .f32 s', .int .i64 m'] 26)) #[.float .f32 0, .float .f32 0, .int .i64 0] 26 (b := w.heap.size + 2) (by simp))
  have X0 := Lib.hid ((((Ext.refl w).stepA (.cells #[.float .f32 h, .float .f32 s, .int .i64 m] 26)).stepA (.cells #[.float .f32 h', .float .f32 s', .int .i64 m'] 26)).stepA (.cells #[.float .f32 0, .float .f32 0, .int .i64 0] 26))
  obtain ⟨a0, a1, a2⟩ := BA.out.three
  obtain ⟨b0, b1, b2⟩ := BB.out.three
  have HB := Lib.hid hb
  have heb := bne_of_beq he
  clear hh hs hh' hs' ha hb
  go_enter Try.func26, Try.ntmps26
  go_wp2_with fail
  clear a0 a1 a2 b0 b1 b2
  refine (c_spec_l06Decay _ h s m _ HA.out BA.out).mono ?_; rintro e w1 ⟨rfl, x1⟩
  have X1 := Lib.hid (X0.out.trans x1)
  have BA1 := Lib.hid (BA.out.on x1)
  have BB1 := Lib.hid (BB.out.on x1)
  have BZ1 := Lib.hid (BZ.out.on x1)
  clear x1
  obtain ⟨a0, a1, a2⟩ := BA1.out.three
  obtain ⟨b0, b1, b2⟩ := BB1.out.three
  obtain ⟨z0, z1, z2⟩ := BZ1.out.three
  obtain ⟨f0, f1, f2, f3⟩ := BZ1.out.free
  go_wp2_with fail
  clear a0 a1 a2 b0 b1 b2 z0 z1 z2 f0 f1 f2 f3
  refine (c_spec_l06Decay _ h' s' m' _ HB.out BB1.out).mono ?_; rintro e w2 ⟨rfl, x2⟩
  have X2 := Lib.hid (X1.out.trans x2)
  have BA2 := Lib.hid (BA1.out.on x2)
  have BB2 := Lib.hid (BB1.out.on x2)
  have BZ2 := Lib.hid (BZ1.out.on x2)
  clear x2
  obtain ⟨a0, a1, a2⟩ := BA2.out.three
  obtain ⟨b0, b1, b2⟩ := BB2.out.three
  obtain ⟨z0, z1, z2⟩ := BZ2.out.three
  obtain ⟨f0, f1, f2, f3⟩ := BZ2.out.free
  go_wp2
  refine bodyPost_ret (v := .tuple #[.agg #[.float .f32 0, .float .f32 0, .int .i64 0], .bool false]) (by simp [results, Try.results26, go_sem, z0, z1, z2]) rfl ⟨rfl, ?_⟩
  have := X2.out
  (repeat (first | assumption | exact Ext.refl _ | (with_reducible refine Ext.stepS ?_ (by first | exact Nat.le_refl _ | (simp; done) | (simp; omega)) _) | (with_reducible refine Ext.stepN ?_ _) | (with_reducible refine Ext.stepD ?_) | (with_reducible refine Ext.stepA ?_ _)))
set_option maxHeartbeats 8000000 in
theorem c_spec_JoinDecays_df (h s : Nat) (m : Int) (h' s' : Nat) (m' : Int) (w : World) (hh : h < 4294967296) (hs : s < 4294967296) (hh' : h' < 4294967296) (hs' : s' < 4294967296) (ha : decB h s m = true) (hb : decB h' s' m' = true) (he : (FloatKind.f32.format.order h h' == some .eq) = true) (mk : Int) (hk : max m m' = mk) (l x0 ex v : Nat) (hR : DecR h s (mk - m) l x0 ex v) (l' x0' ex' v' : Nat) (hR' : DecR h' s' (mk - m') l' x0' ex' v') (u : Nat) (hu : floatBits .add .f32 v v' = some u) (hub : isFin .f32 u = false) :
    Calls Try.prog 26 #[.agg #[.float .f32 h, .float .f32 s, .int .i64 m], .agg #[.float .f32 h', .float .f32 s', .int .i64 m']] w fun e w' => e = .returned (.tuple #[.agg #[.float .f32 0, .float .f32 0, .int .i64 0], .bool false]) ∧ Ext w w' := by
  have HH := Lib.hid hh
  have HS := Lib.hid hs
  have HH' := Lib.hid hh'
  have HS' := Lib.hid hs'
  have HA := Lib.hid ha
  have BA := Lib.hid (((Box.alloc w #[.float .f32 h, .float .f32 s, .int .i64 m] 26).past (.cells #[.float .f32 h', .float .f32 s', .int .i64 m'] 26)).past (.cells #[.float .f32 0, .float .f32 0, .int .i64 0] 26))
  have BB := Lib.hid ((Box.alloc_at (w.alloc (.cells #[.float .f32 h, .float .f32 s, .int .i64 m] 26)) #[.float .f32 h', .float .f32 s', .int .i64 m'] 26 (b := w.heap.size + 1) (by simp)).past (.cells #[.float .f32 0, .float .f32 0, .int .i64 0] 26))
  have BZ := Lib.hid (Box.alloc_at ((w.alloc (.cells #[.float .f32 h, .float .f32 s, .int .i64 m] 26)).alloc (.cells #[.float .f32 h', .float .f32 s', .int .i64 m'] 26)) #[.float .f32 0, .float .f32 0, .int .i64 0] 26 (b := w.heap.size + 2) (by simp))
  have X0 := Lib.hid ((((Ext.refl w).stepA (.cells #[.float .f32 h, .float .f32 s, .int .i64 m] 26)).stepA (.cells #[.float .f32 h', .float .f32 s', .int .i64 m'] 26)).stepA (.cells #[.float .f32 0, .float .f32 0, .int .i64 0] 26))
  obtain ⟨a0, a1, a2⟩ := BA.out.three
  obtain ⟨b0, b1, b2⟩ := BB.out.three
  have HB := Lib.hid hb
  have heb := bne_of_beq he
  have HDR := Lib.hid hR
  have HDR' := Lib.hid hR'
  have HK := Lib.hid hk
  have hm1 : ∀ wx : World, (binOp .add 22 (.float .f32 v) (.float .f32 v')).run Try.prog wx = .ok (.float .f32 u) wx := fun wx => by
    rw [run_fl_add, flR_some hu, flD_some hu, World.drewN_zero]
  have HU := Lib.hid (show u < 4294967296 from bits_lt hu w)
  have oka := dec_ok ha
  have okb := dec_ok hb
  have HAA := Lib.hid (show decAtB h s m mk = true by unfold decAtB; rw [ha, inB_isD.2 ⟨by omega, by have := oka.m1; have := okb.m1; omega⟩]; rfl)
  have HAB := Lib.hid (show decAtB h' s' m' mk = true by unfold decAtB; rw [hb, inB_isD.2 ⟨by omega, by have := oka.m1; have := okb.m1; omega⟩]; rfl)
  have HV := Lib.hid (show decB h u mk = false by unfold decB aboveB gt0; rw [oka.fh, oka.gt, hub, inB_isD.2 ⟨by have := oka.m0; omega, by have := oka.m1; have := okb.m1; omega⟩]; rfl)
  clear hh hs hh' hs' ha hb hR hR' hu hub oka okb hk
  go_enter Try.func26, Try.ntmps26
  go_wp2_with fail
  clear a0 a1 a2 b0 b1 b2
  refine (c_spec_l06Decay _ h s m _ HA.out BA.out).mono ?_; rintro e w1 ⟨rfl, x1⟩
  have X1 := Lib.hid (X0.out.trans x1)
  have BA1 := Lib.hid (BA.out.on x1)
  have BB1 := Lib.hid (BB.out.on x1)
  have BZ1 := Lib.hid (BZ.out.on x1)
  clear x1
  obtain ⟨a0, a1, a2⟩ := BA1.out.three
  obtain ⟨b0, b1, b2⟩ := BB1.out.three
  obtain ⟨z0, z1, z2⟩ := BZ1.out.three
  obtain ⟨f0, f1, f2, f3⟩ := BZ1.out.free
  go_wp2_with fail
  clear a0 a1 a2 b0 b1 b2 z0 z1 z2 f0 f1 f2 f3
  refine (c_spec_l06Decay _ h' s' m' _ HB.out BB1.out).mono ?_; rintro e w2 ⟨rfl, x2⟩
  have X2 := Lib.hid (X1.out.trans x2)
  have BA2 := Lib.hid (BA1.out.on x2)
  have BB2 := Lib.hid (BB1.out.on x2)
  have BZ2 := Lib.hid (BZ1.out.on x2)
  clear x2
  obtain ⟨a0, a1, a2⟩ := BA2.out.three
  obtain ⟨b0, b1, b2⟩ := BB2.out.three
  obtain ⟨z0, z1, z2⟩ := BZ2.out.three
  obtain ⟨f0, f1, f2, f3⟩ := BZ2.out.free
  go_wp2_with fail
  clear a0 a1 a2 b0 b1 b2 z0 z1 z2 f0 f1 f2 f3
  refine (c_l00Max_d m m' mk _ HK.out).mono ?_; rintro e w3 ⟨rfl, rfl⟩
  obtain ⟨a0, a1, a2⟩ := BA2.out.three
  obtain ⟨b0, b1, b2⟩ := BB2.out.three
  obtain ⟨z0, z1, z2⟩ := BZ2.out.three
  obtain ⟨f0, f1, f2, f3⟩ := BZ2.out.free
  go_wp2_with fail
  clear a0 a1 a2 b0 b1 b2 z0 z1 z2 f0 f1 f2 f3
  refine (c_spec_DecayAt_yes h s m mk l x0 ex v _ HAA.out HDR.out).mono ?_; rintro e w3 ⟨rfl, x3⟩
  have X3 := Lib.hid (X2.out.trans x3)
  have BA3 := Lib.hid (BA2.out.on x3)
  have BB3 := Lib.hid (BB2.out.on x3)
  have BZ3 := Lib.hid (BZ2.out.on x3)
  clear x3
  obtain ⟨a0, a1, a2⟩ := BA3.out.three
  obtain ⟨b0, b1, b2⟩ := BB3.out.three
  obtain ⟨z0, z1, z2⟩ := BZ3.out.three
  obtain ⟨f0, f1, f2, f3⟩ := BZ3.out.free
  go_wp2_with fail
  clear a0 a1 a2 b0 b1 b2 z0 z1 z2 f0 f1 f2 f3
  refine (c_spec_DecayAt_yes h' s' m' mk l' x0' ex' v' _ HAB.out HDR'.out).mono ?_; rintro e w4 ⟨rfl, x4⟩
  have X4 := Lib.hid (X3.out.trans x4)
  have BA4 := Lib.hid (BA3.out.on x4)
  have BB4 := Lib.hid (BB3.out.on x4)
  have BZ4 := Lib.hid (BZ3.out.on x4)
  clear x4
  obtain ⟨a0, a1, a2⟩ := BA4.out.three
  obtain ⟨b0, b1, b2⟩ := BB4.out.three
  obtain ⟨z0, z1, z2⟩ := BZ4.out.three
  obtain ⟨f0, f1, f2, f3⟩ := BZ4.out.free
  have BU := Lib.hid (Box.alloc w4 #[.float .f32 h, .float .f32 u, .int .i64 mk] 26)
  have XU := Lib.hid (X4.out.stepA (.cells #[.float .f32 h, .float .f32 u, .int .i64 mk] 26))
  have ZU := Lib.hid (BZ4.out.past (.cells #[.float .f32 h, .float .f32 u, .int .i64 mk] 26))
  go_wp2_with fail
  clear a0 a1 a2 b0 b1 b2 z0 z1 z2 f0 f1 f2 f3
  refine (c_spec_l06Decay _ h u mk _ HV.out BU.out).mono ?_; rintro e w5 ⟨rfl, x5⟩
  have X5 := Lib.hid (XU.out.trans x5)
  obtain ⟨z0, z1, z2⟩ := (ZU.out.on x5).three
  obtain ⟨f0, f1, f2, f3⟩ := (ZU.out.on x5).free
  obtain ⟨u0, u1, u2⟩ := (BU.out.on x5).three
  clear x5
  go_wp2
  refine bodyPost_ret (v := .tuple #[.agg #[.float .f32 0, .float .f32 0, .int .i64 0], .bool false]) (by simp [results, Try.results26, go_sem, z0, z1, z2]) rfl ⟨rfl, ?_⟩
  have := X5.out
  (repeat (first | assumption | exact Ext.refl _ | (with_reducible refine Ext.stepS ?_ (by first | exact Nat.le_refl _ | (simp; done) | (simp; omega)) _) | (with_reducible refine Ext.stepN ?_ _) | (with_reducible refine Ext.stepD ?_) | (with_reducible refine Ext.stepA ?_ _)))
set_option maxHeartbeats 8000000 in
theorem c_spec_JoinDecays_dt (h s : Nat) (m : Int) (h' s' : Nat) (m' : Int) (w : World) (hh : h < 4294967296) (hs : s < 4294967296) (hh' : h' < 4294967296) (hs' : s' < 4294967296) (ha : decB h s m = true) (hb : decB h' s' m' = true) (he : (FloatKind.f32.format.order h h' == some .eq) = true) (mk : Int) (hk : max m m' = mk) (l x0 ex v : Nat) (hR : DecR h s (mk - m) l x0 ex v) (l' x0' ex' v' : Nat) (hR' : DecR h' s' (mk - m') l' x0' ex' v') (u : Nat) (hu : floatBits .add .f32 v v' = some u) (hub : isFin .f32 u = true) :
    Calls Try.prog 26 #[.agg #[.float .f32 h, .float .f32 s, .int .i64 m], .agg #[.float .f32 h', .float .f32 s', .int .i64 m']] w fun e w' => e = .returned (.tuple #[.agg #[.float .f32 h, .float .f32 u, .int .i64 mk], .bool true]) ∧ Ext w w' := by
  have HH := Lib.hid hh
  have HS := Lib.hid hs
  have HH' := Lib.hid hh'
  have HS' := Lib.hid hs'
  have HA := Lib.hid ha
  have BA := Lib.hid (((Box.alloc w #[.float .f32 h, .float .f32 s, .int .i64 m] 26).past (.cells #[.float .f32 h', .float .f32 s', .int .i64 m'] 26)).past (.cells #[.float .f32 0, .float .f32 0, .int .i64 0] 26))
  have BB := Lib.hid ((Box.alloc_at (w.alloc (.cells #[.float .f32 h, .float .f32 s, .int .i64 m] 26)) #[.float .f32 h', .float .f32 s', .int .i64 m'] 26 (b := w.heap.size + 1) (by simp)).past (.cells #[.float .f32 0, .float .f32 0, .int .i64 0] 26))
  have BZ := Lib.hid (Box.alloc_at ((w.alloc (.cells #[.float .f32 h, .float .f32 s, .int .i64 m] 26)).alloc (.cells #[.float .f32 h', .float .f32 s', .int .i64 m'] 26)) #[.float .f32 0, .float .f32 0, .int .i64 0] 26 (b := w.heap.size + 2) (by simp))
  have X0 := Lib.hid ((((Ext.refl w).stepA (.cells #[.float .f32 h, .float .f32 s, .int .i64 m] 26)).stepA (.cells #[.float .f32 h', .float .f32 s', .int .i64 m'] 26)).stepA (.cells #[.float .f32 0, .float .f32 0, .int .i64 0] 26))
  obtain ⟨a0, a1, a2⟩ := BA.out.three
  obtain ⟨b0, b1, b2⟩ := BB.out.three
  have HB := Lib.hid hb
  have heb := bne_of_beq he
  have HDR := Lib.hid hR
  have HDR' := Lib.hid hR'
  have HK := Lib.hid hk
  have hm1 : ∀ wx : World, (binOp .add 22 (.float .f32 v) (.float .f32 v')).run Try.prog wx = .ok (.float .f32 u) wx := fun wx => by
    rw [run_fl_add, flR_some hu, flD_some hu, World.drewN_zero]
  have HU := Lib.hid (show u < 4294967296 from bits_lt hu w)
  have oka := dec_ok ha
  have okb := dec_ok hb
  have HAA := Lib.hid (show decAtB h s m mk = true by unfold decAtB; rw [ha, inB_isD.2 ⟨by omega, by have := oka.m1; have := okb.m1; omega⟩]; rfl)
  have HAB := Lib.hid (show decAtB h' s' m' mk = true by unfold decAtB; rw [hb, inB_isD.2 ⟨by omega, by have := oka.m1; have := okb.m1; omega⟩]; rfl)
  have HV := Lib.hid (show decB h u mk = true by unfold decB aboveB gt0; rw [oka.fh, oka.gt, hub, inB_isD.2 ⟨by have := oka.m0; omega, by have := oka.m1; have := okb.m1; omega⟩]; rfl)
  clear hh hs hh' hs' ha hb hR hR' hu hub oka okb hk
  go_enter Try.func26, Try.ntmps26
  go_wp2_with fail
  clear a0 a1 a2 b0 b1 b2
  refine (c_spec_l06Decay _ h s m _ HA.out BA.out).mono ?_; rintro e w1 ⟨rfl, x1⟩
  have X1 := Lib.hid (X0.out.trans x1)
  have BA1 := Lib.hid (BA.out.on x1)
  have BB1 := Lib.hid (BB.out.on x1)
  have BZ1 := Lib.hid (BZ.out.on x1)
  clear x1
  obtain ⟨a0, a1, a2⟩ := BA1.out.three
  obtain ⟨b0, b1, b2⟩ := BB1.out.three
  obtain ⟨z0, z1, z2⟩ := BZ1.out.three
  obtain ⟨f0, f1, f2, f3⟩ := BZ1.out.free
  go_wp2_with fail
  clear a0 a1 a2 b0 b1 b2 z0 z1 z2 f0 f1 f2 f3
  refine (c_spec_l06Decay _ h' s' m' _ HB.out BB1.out).mono ?_; rintro e w2 ⟨rfl, x2⟩
  have X2 := Lib.hid (X1.out.trans x2)
  have BA2 := Lib.hid (BA1.out.on x2)
  have BB2 := Lib.hid (BB1.out.on x2)
  have BZ2 := Lib.hid (BZ1.out.on x2)
  clear x2
  obtain ⟨a0, a1, a2⟩ := BA2.out.three
  obtain ⟨b0, b1, b2⟩ := BB2.out.three
  obtain ⟨z0, z1, z2⟩ := BZ2.out.three
  obtain ⟨f0, f1, f2, f3⟩ := BZ2.out.free
  go_wp2_with fail
  clear a0 a1 a2 b0 b1 b2 z0 z1 z2 f0 f1 f2 f3
  refine (c_l00Max_d m m' mk _ HK.out).mono ?_; rintro e w3 ⟨rfl, rfl⟩
  obtain ⟨a0, a1, a2⟩ := BA2.out.three
  obtain ⟨b0, b1, b2⟩ := BB2.out.three
  obtain ⟨z0, z1, z2⟩ := BZ2.out.three
  obtain ⟨f0, f1, f2, f3⟩ := BZ2.out.free
  go_wp2_with fail
  clear a0 a1 a2 b0 b1 b2 z0 z1 z2 f0 f1 f2 f3
  refine (c_spec_DecayAt_yes h s m mk l x0 ex v _ HAA.out HDR.out).mono ?_; rintro e w3 ⟨rfl, x3⟩
  have X3 := Lib.hid (X2.out.trans x3)
  have BA3 := Lib.hid (BA2.out.on x3)
  have BB3 := Lib.hid (BB2.out.on x3)
  have BZ3 := Lib.hid (BZ2.out.on x3)
  clear x3
  obtain ⟨a0, a1, a2⟩ := BA3.out.three
  obtain ⟨b0, b1, b2⟩ := BB3.out.three
  obtain ⟨z0, z1, z2⟩ := BZ3.out.three
  obtain ⟨f0, f1, f2, f3⟩ := BZ3.out.free
  go_wp2_with fail
  clear a0 a1 a2 b0 b1 b2 z0 z1 z2 f0 f1 f2 f3
  refine (c_spec_DecayAt_yes h' s' m' mk l' x0' ex' v' _ HAB.out HDR'.out).mono ?_; rintro e w4 ⟨rfl, x4⟩
  have X4 := Lib.hid (X3.out.trans x4)
  have BA4 := Lib.hid (BA3.out.on x4)
  have BB4 := Lib.hid (BB3.out.on x4)
  have BZ4 := Lib.hid (BZ3.out.on x4)
  clear x4
  obtain ⟨a0, a1, a2⟩ := BA4.out.three
  obtain ⟨b0, b1, b2⟩ := BB4.out.three
  obtain ⟨z0, z1, z2⟩ := BZ4.out.three
  obtain ⟨f0, f1, f2, f3⟩ := BZ4.out.free
  have BU := Lib.hid (Box.alloc w4 #[.float .f32 h, .float .f32 u, .int .i64 mk] 26)
  have XU := Lib.hid (X4.out.stepA (.cells #[.float .f32 h, .float .f32 u, .int .i64 mk] 26))
  have ZU := Lib.hid (BZ4.out.past (.cells #[.float .f32 h, .float .f32 u, .int .i64 mk] 26))
  go_wp2_with fail
  clear a0 a1 a2 b0 b1 b2 z0 z1 z2 f0 f1 f2 f3
  refine (c_spec_l06Decay _ h u mk _ HV.out BU.out).mono ?_; rintro e w5 ⟨rfl, x5⟩
  have X5 := Lib.hid (XU.out.trans x5)
  obtain ⟨z0, z1, z2⟩ := (ZU.out.on x5).three
  obtain ⟨f0, f1, f2, f3⟩ := (ZU.out.on x5).free
  obtain ⟨u0, u1, u2⟩ := (BU.out.on x5).three
  clear x5
  go_wp2
  refine bodyPost_ret (v := .tuple #[.agg #[.float .f32 h, .float .f32 u, .int .i64 mk], .bool true]) (by simp [results, Try.results26, go_sem, z0, z1, z2]) rfl ⟨rfl, ?_⟩
  have := X5.out
  (repeat (first | assumption | exact Ext.refl _ | (with_reducible refine Ext.stepS ?_ (by first | exact Nat.le_refl _ | (simp; done) | (simp; omega)) _) | (with_reducible refine Ext.stepN ?_ _) | (with_reducible refine Ext.stepD ?_) | (with_reducible refine Ext.stepA ?_ _)))
theorem join_both (h s : Nat) (m : Int) (h' s' : Nat) (m' : Int) (hh : h < 4294967296) (hs : s < 4294967296) (hh' : h' < 4294967296) (hs' : s' < 4294967296) : ∃ (r0 r1 : Nat) (r2 : Int) (b : Bool), isFin .f32 r0 = true ∧ isFin .f32 r1 = true ∧
    (∀ w, Calls Try.prog 26 #[.agg #[.float .f32 h, .float .f32 s, .int .i64 m], .agg #[.float .f32 h', .float .f32 s', .int .i64 m']] w fun e w' => e = .returned (.tuple #[.agg #[.float .f32 r0, .float .f32 r1, .int .i64 r2], .bool b]) ∧ Ext w w') ∧
    (∀ w, Calls Try.prog 27 #[.agg #[.float .f32 h, .float .f32 s, .int .i64 m], .agg #[.float .f32 h', .float .f32 s', .int .i64 m']] w fun e w' => e = .returned (.tuple #[.agg #[.float .f32 r0, .float .f32 r1, .int .i64 r2], .bool b]) ∧ Ext w w') := by
  have z : isFin .f32 0 = true := by kernel_rfl
  cases ha : decB h s m
  · exact ⟨0, 0, 0, false, z, z, fun w => c_spec_JoinDecays_a h s m h' s' m' w hh hs hh' hs' ha, fun w => c_impl_JoinDecays_a h s m h' s' m' w hh hs hh' hs' ha⟩
  cases hb : decB h' s' m'
  · exact ⟨0, 0, 0, false, z, z, fun w => c_spec_JoinDecays_b h s m h' s' m' w hh hs hh' hs' ha hb, fun w => c_impl_JoinDecays_b h s m h' s' m' w hh hs hh' hs' ha hb⟩
  cases he : (FloatKind.f32.format.order h h' == some .eq)
  · exact ⟨0, 0, 0, false, z, z, fun w => c_spec_JoinDecays_c h s m h' s' m' w hh hs hh' hs' ha hb he, fun w => c_impl_JoinDecays_c h s m h' s' m' w hh hs hh' hs' ha hb he⟩
  have oka := dec_ok ha
  have okb := dec_ok hb
  have a0 := oka.m0
  have a1 := oka.m1
  have b0 := okb.m0
  have b1 := okb.m1
  obtain ⟨mk, hk⟩ : ∃ mk, max m m' = mk := ⟨_, rfl⟩
  obtain ⟨l, x0, ex, v, hR⟩ := decay_ex oka.fh oka.gt oka.fs (show 0 ≤ mk - m by omega) (show mk - m ≤ 1000000 by omega)
  obtain ⟨l', x0', ex', v', hR'⟩ := decay_ex okb.fh okb.gt okb.fs (show 0 ≤ mk - m' by omega) (show mk - m' ≤ 1000000 by omega)
  obtain ⟨u, hu⟩ := add_ex hR.fin hR'.fin
  cases hub : isFin .f32 u
  · exact ⟨0, 0, 0, false, z, z, fun w => c_spec_JoinDecays_df h s m h' s' m' w hh hs hh' hs' ha hb he mk hk l x0 ex v hR l' x0' ex' v' hR' u hu hub, fun w => c_impl_JoinDecays_df h s m h' s' m' w hh hs hh' hs' ha hb he mk hk l x0 ex v hR l' x0' ex' v' hR' u hu hub⟩
  · exact ⟨h, u, mk, true, oka.fh, hub, fun w => c_spec_JoinDecays_dt h s m h' s' m' w hh hs hh' hs' ha hb he mk hk l x0 ex v hR l' x0' ex' v' hR' u hu hub, fun w => c_impl_JoinDecays_dt h s m h' s' m' w hh hs hh' hs' ha hb he mk hk l x0 ex v hR l' x0' ex' v' hR' u hu hub⟩
end Go.Proofs.Ytmlnnnagbkknhab
