/- PutDecay, JoinDecays: both sides. -/
import Derived.Test.YtmlnnnagbkknhabDcc
namespace Go.Proofs.Ytmlnnnagbkknhab
open Go.ChangeShapes Go.WideShapes Go.ChangeAt Go.RowKit Go.Proofs.Ytmlnnnagbkknhab.Flo
set_option linter.unusedVariables false
attribute [local go_sem] unary_neg_float run_store_float run_store_complex
theorem add_ex {v x : Nat} (h1 : isFin .f32 v = true) (h2 : isFin .f32 x = true) : ∃ u, floatBits .add .f32 v x = some u := by
  obtain ⟨s, m, i, d1⟩ := isFin_number h1
  obtain ⟨t, n, j, d2⟩ := isFin_number h2
  have e : floatBits .add .f32 v x = ((FloatKind.f32.decode v).sum (FloatKind.f32.decode x)).map FloatKind.f32.format.write := rfl
  rw [e, d1, d2]
  exact ⟨_, rfl⟩
theorem fin_wide {h : Nat} (hf : isFin .f32 h = true) : ∃ y, floatToFloatBits .f32 h .f64 = some y := by
  obtain ⟨s, m, e, hd⟩ := isFin_number hf
  exact ⟨_, widen_number hd⟩
theorem bits_lt {op : BinOp} {x y u : Nat} (h : floatBits op .f32 x y = some u) (w : World) : u < 4294967296 := by
  have := flR_lt w op .f32 x y
  rw [flR_some h] at this
  exact this
set_option maxHeartbeats 2000000 in
theorem c_eqD (h s : Nat) (m : Int) (w : World) (h1 : isFin .f32 h = true) (h2 : isFin .f32 s = true) :
    Calls Try.prog 25 #[.agg #[.float .f32 h, .float .f32 s, .int .i64 m], .agg #[.float .f32 h, .float .f32 s, .int .i64 m]] w fun e w' => e = .returned (.bool true) ∧ Ext w w' := by
  obtain ⟨yh, ey⟩ := fin_wide h1
  obtain ⟨ys, es⟩ := fin_wide h2
  have hch : ∀ wx : World, (convert 22 34 (.float .f32 h)).run Try.prog wx = .ok (.float .f64 yh) wx := fun wx => run_convert_float_float wx _ _ _ _ _ _ (by kernel_rfl) (by kernel_rfl) ey
  have hcs : ∀ wx : World, (convert 22 34 (.float .f32 s)).run Try.prog wx = .ok (.float .f64 ys) wx := fun wx => run_convert_float_float wx _ _ _ _ _ _ (by kernel_rfl) (by kernel_rfl) es
  have BX := Lib.hid ((Box.alloc w #[.float .f32 h, .float .f32 s, .int .i64 m] 26).past (.cells #[.float .f32 h, .float .f32 s, .int .i64 m] 26))
  have BY := Lib.hid (Box.alloc_at (w.alloc (.cells #[.float .f32 h, .float .f32 s, .int .i64 m] 26)) #[.float .f32 h, .float .f32 s, .int .i64 m] 26 (b := w.heap.size + 1) (by simp))
  have X0 := Lib.hid (((Ext.refl w).stepA (.cells #[.float .f32 h, .float .f32 s, .int .i64 m] 26)).stepA (.cells #[.float .f32 h, .float .f32 s, .int .i64 m] 26))
  obtain ⟨b0, b1, b2⟩ := BX.out.three
  obtain ⟨d0, d1, d2⟩ := BY.out.three
  have em : (m == m) = true := by simp
  clear ey es h1 h2
  go_enter Try.func25, Try.ntmps25
  go_wp2_with fail
  clear b0 b1 b2 d0 d1 d2
  refine (c_sameFloat yh yh _ rfl).mono ?_; rintro e w1 ⟨rfl, q1, rfl⟩
  obtain ⟨b0, b1, b2⟩ := (BX.out.on (Ext.drewN _ q1)).three
  obtain ⟨d0, d1, d2⟩ := (BY.out.on (Ext.drewN _ q1)).three
  go_wp2_with fail
  clear b0 b1 b2 d0 d1 d2
  refine (c_sameFloat ys ys _ rfl).mono ?_; rintro e w1 ⟨rfl, q2, rfl⟩
  obtain ⟨b0, b1, b2⟩ := ((BX.out.on (Ext.drewN _ q1)).on (Ext.drewN _ q2)).three
  obtain ⟨d0, d1, d2⟩ := ((BY.out.on (Ext.drewN _ q1)).on (Ext.drewN _ q2)).three
  try simp only [World.drewN_drewN] at b0 b1 b2 d0 d1 d2
  go_wp2
  go_ret
  exact ⟨rfl, by have := X0.out; (repeat (first | assumption | exact Ext.refl _ | (with_reducible refine Ext.stepS ?_ (by first | exact Nat.le_refl _ | (simp; done) | (simp; omega)) _) | (with_reducible refine Ext.stepN ?_ _) | (with_reducible refine Ext.stepD ?_) | (with_reducible refine Ext.stepA ?_ _)))⟩
set_option maxHeartbeats 2000000 in
theorem c_impl_decayIfValid_false (h s : Nat) (m : Int) (w : World) (hr : decB h s m = false) (hh : h < 4294967296) (hs : s < 4294967296) :
    Calls Try.prog 63 #[.agg #[.float .f32 h, .float .f32 s, .int .i64 m]] w fun e w' => e = .returned (.tuple #[.agg #[.float .f32 0, .float .f32 0, .int .i64 0], .bool false]) ∧ Ext w w' := by
  have HR := Lib.hid hr
  have HH := Lib.hid hh
  have HS := Lib.hid hs
  have BX := Lib.hid ((Box.alloc w #[.float .f32 h, .float .f32 s, .int .i64 m] 26).past (.cells #[.float .f32 0, .float .f32 0, .int .i64 0] 26))
  have BZ := Lib.hid (Box.alloc_at (w.alloc (.cells #[.float .f32 h, .float .f32 s, .int .i64 m] 26)) #[.float .f32 0, .float .f32 0, .int .i64 0] 26 (b := w.heap.size + 1) (by simp))
  have X0 := Lib.hid (((Ext.refl w).stepA (.cells #[.float .f32 h, .float .f32 s, .int .i64 m] 26)).stepA (.cells #[.float .f32 0, .float .f32 0, .int .i64 0] 26))
  obtain ⟨b0, b1, b2⟩ := BX.out.three
  clear hr hh hs
  go_enter Try.func63, Try.ntmps63
  go_wp2_with fail
  clear b0 b1 b2
  refine (c_impl_ValidDecay h s m _ HR.out HH.out HS.out).mono ?_; rintro e w1 ⟨rfl, x1⟩
  have X : Ext w w1 := X0.out.trans x1
  obtain ⟨b0, b1, b2⟩ := (BX.out.on x1).three
  obtain ⟨z0, z1, z2⟩ := (BZ.out.on x1).three
  obtain ⟨f0, f1, f2, f3⟩ := (BZ.out.on x1).free
  clear x1
  go_wp2
  refine bodyPost_ret (v := .tuple #[.agg #[.float .f32 0, .float .f32 0, .int .i64 0], .bool false]) (by simp [results, Try.results63, go_sem, z0, z1, z2]) rfl ⟨rfl, ?_⟩
  (repeat (first | assumption | exact Ext.refl _ | (with_reducible refine Ext.stepS ?_ (by first | exact Nat.le_refl _ | (simp; done) | (simp; omega)) _) | (with_reducible refine Ext.stepN ?_ _) | (with_reducible refine Ext.stepD ?_) | (with_reducible refine Ext.stepA ?_ _)))
set_option maxHeartbeats 2000000 in
theorem c_impl_decayIfValid_true (h s : Nat) (m : Int) (w : World) (hr : decB h s m = true) (hh : h < 4294967296) (hs : s < 4294967296) :
    Calls Try.prog 63 #[.agg #[.float .f32 h, .float .f32 s, .int .i64 m]] w fun e w' => e = .returned (.tuple #[.agg #[.float .f32 h, .float .f32 s, .int .i64 m], .bool true]) ∧ Ext w w' := by
  have HR := Lib.hid hr
  have HH := Lib.hid hh
  have HS := Lib.hid hs
  have BX := Lib.hid ((Box.alloc w #[.float .f32 h, .float .f32 s, .int .i64 m] 26).past (.cells #[.float .f32 0, .float .f32 0, .int .i64 0] 26))
  have BZ := Lib.hid (Box.alloc_at (w.alloc (.cells #[.float .f32 h, .float .f32 s, .int .i64 m] 26)) #[.float .f32 0, .float .f32 0, .int .i64 0] 26 (b := w.heap.size + 1) (by simp))
  have X0 := Lib.hid (((Ext.refl w).stepA (.cells #[.float .f32 h, .float .f32 s, .int .i64 m] 26)).stepA (.cells #[.float .f32 0, .float .f32 0, .int .i64 0] 26))
  obtain ⟨b0, b1, b2⟩ := BX.out.three
  clear hr hh hs
  go_enter Try.func63, Try.ntmps63
  go_wp2_with fail
  clear b0 b1 b2
  refine (c_impl_ValidDecay h s m _ HR.out HH.out HS.out).mono ?_; rintro e w1 ⟨rfl, x1⟩
  have X : Ext w w1 := X0.out.trans x1
  obtain ⟨b0, b1, b2⟩ := (BX.out.on x1).three
  obtain ⟨z0, z1, z2⟩ := (BZ.out.on x1).three
  obtain ⟨f0, f1, f2, f3⟩ := (BZ.out.on x1).free
  clear x1
  go_wp2
  refine bodyPost_ret (v := .tuple #[.agg #[.float .f32 h, .float .f32 s, .int .i64 m], .bool true]) (by simp [results, Try.results63, go_sem, z0, z1, z2]) rfl ⟨rfl, ?_⟩
  (repeat (first | assumption | exact Ext.refl _ | (with_reducible refine Ext.stepS ?_ (by first | exact Nat.le_refl _ | (simp; done) | (simp; omega)) _) | (with_reducible refine Ext.stepN ?_ _) | (with_reducible refine Ext.stepD ?_) | (with_reducible refine Ext.stepA ?_ _)))
set_option maxHeartbeats 4000000 in
theorem c_impl_PutDecay_no1 (h s : Nat) (m t : Int) (x : Nat) (w : World) (hh : h < 4294967296) (hs : s < 4294967296) (hx32 : x < 4294967296) (hr : decAtB h s m t = false) :
    Calls Try.prog 24 #[.agg #[.float .f32 h, .float .f32 s, .int .i64 m], .int .i64 t, .float .f32 x] w fun e w' => e = .returned (.tuple #[.agg #[.float .f32 0, .float .f32 0, .int .i64 0], .bool false]) ∧ Ext w w' := by
  have HH := Lib.hid hh
  have HS := Lib.hid hs
  have HX32 := Lib.hid hx32
  have HR := Lib.hid hr
  have BX := Lib.hid ((Box.alloc w #[.float .f32 h, .float .f32 s, .int .i64 m] 26).past (.cells #[.float .f32 0, .float .f32 0, .int .i64 0] 26))
  have BZ := Lib.hid (Box.alloc_at (w.alloc (.cells #[.float .f32 h, .float .f32 s, .int .i64 m] 26)) #[.float .f32 0, .float .f32 0, .int .i64 0] 26 (b := w.heap.size + 1) (by simp))
  have X0 := Lib.hid (((Ext.refl w).stepA (.cells #[.float .f32 h, .float .f32 s, .int .i64 m] 26)).stepA (.cells #[.float .f32 0, .float .f32 0, .int .i64 0] 26))
  obtain ⟨b0, b1, b2⟩ := BX.out.three
  clear hh hs hx32 hr
  go_enter Try.func24, Try.ntmps24
  go_wp2_with fail
  clear b0 b1 b2
  refine (c_impl_DecayAt_no h s m t _ HR.out HH.out HS.out).mono ?_; rintro e w1 ⟨rfl, x1⟩
  have X1 := Lib.hid (X0.out.trans x1)
  have B1 := Lib.hid (BX.out.on x1)
  have Z1 := Lib.hid (BZ.out.on x1)
  obtain ⟨b0, b1, b2⟩ := B1.out.three
  obtain ⟨z0, z1, z2⟩ := Z1.out.three
  obtain ⟨f0, f1, f2, f3⟩ := Z1.out.free
  clear x1
  go_wp2
  refine bodyPost_ret (v := .tuple #[.agg #[.float .f32 0, .float .f32 0, .int .i64 0], .bool false]) (by simp [results, Try.results24, go_sem, z0, z1, z2]) rfl ⟨rfl, ?_⟩
  have := X1.out
  (repeat (first | assumption | exact Ext.refl _ | (with_reducible refine Ext.stepS ?_ (by first | exact Nat.le_refl _ | (simp; done) | (simp; omega)) _) | (with_reducible refine Ext.stepN ?_ _) | (with_reducible refine Ext.stepD ?_) | (with_reducible refine Ext.stepA ?_ _)))
set_option maxHeartbeats 4000000 in
theorem c_impl_PutDecay_no2 (h s : Nat) (m t : Int) (x : Nat) (w : World) (hh : h < 4294967296) (hs : s < 4294967296) (hx32 : x < 4294967296) (hr : decAtB h s m t = true) (l x0 ex v : Nat) (hR : DecR h s (t - m) l x0 ex v) (hx : isFin .f32 x = false) :
    Calls Try.prog 24 #[.agg #[.float .f32 h, .float .f32 s, .int .i64 m], .int .i64 t, .float .f32 x] w fun e w' => e = .returned (.tuple #[.agg #[.float .f32 0, .float .f32 0, .int .i64 0], .bool false]) ∧ Ext w w' := by
  have HH := Lib.hid hh
  have HS := Lib.hid hs
  have HX32 := Lib.hid hx32
  have HR := Lib.hid hr
  have BX := Lib.hid ((Box.alloc w #[.float .f32 h, .float .f32 s, .int .i64 m] 26).past (.cells #[.float .f32 0, .float .f32 0, .int .i64 0] 26))
  have BZ := Lib.hid (Box.alloc_at (w.alloc (.cells #[.float .f32 h, .float .f32 s, .int .i64 m] 26)) #[.float .f32 0, .float .f32 0, .int .i64 0] 26 (b := w.heap.size + 1) (by simp))
  have X0 := Lib.hid (((Ext.refl w).stepA (.cells #[.float .f32 h, .float .f32 s, .int .i64 m] 26)).stepA (.cells #[.float .f32 0, .float .f32 0, .int .i64 0] 26))
  obtain ⟨b0, b1, b2⟩ := BX.out.three
  have HDR := Lib.hid hR
  have HX := Lib.hid hx
  clear hh hs hx32 hr hR hx
  go_enter Try.func24, Try.ntmps24
  go_wp2_with fail
  clear b0 b1 b2
  refine (c_impl_DecayAt_yes h s m t l x0 ex v _ HR.out HDR.out HH.out HS.out).mono ?_; rintro e w1 ⟨rfl, x1⟩
  have X1 := Lib.hid (X0.out.trans x1)
  have B1 := Lib.hid (BX.out.on x1)
  have Z1 := Lib.hid (BZ.out.on x1)
  obtain ⟨b0, b1, b2⟩ := B1.out.three
  obtain ⟨z0, z1, z2⟩ := Z1.out.three
  obtain ⟨f0, f1, f2, f3⟩ := Z1.out.free
  clear x1
  go_wp2_with fail
  clear b0 b1 b2 z0 z1 z2 f0 f1 f2 f3
  refine (c_impl_IsFinite_b x _ HX32.out HX.out).mono ?_; rintro e w2 ⟨rfl, q2, rfl⟩
  obtain ⟨b0, b1, b2⟩ := (B1.out.on (Ext.drewN _ q2)).three
  obtain ⟨z0, z1, z2⟩ := (Z1.out.on (Ext.drewN _ q2)).three
  obtain ⟨f0, f1, f2, f3⟩ := (Z1.out.on (Ext.drewN _ q2)).free
  go_wp2
  refine bodyPost_ret (v := .tuple #[.agg #[.float .f32 0, .float .f32 0, .int .i64 0], .bool false]) (by simp [results, Try.results24, go_sem, z0, z1, z2]) rfl ⟨rfl, ?_⟩
  have := X1.out
  (repeat (first | assumption | exact Ext.refl _ | (with_reducible refine Ext.stepS ?_ (by first | exact Nat.le_refl _ | (simp; done) | (simp; omega)) _) | (with_reducible refine Ext.stepN ?_ _) | (with_reducible refine Ext.stepD ?_) | (with_reducible refine Ext.stepA ?_ _)))
set_option maxHeartbeats 4000000 in
theorem c_impl_PutDecay_finf (h s : Nat) (m t : Int) (x : Nat) (w : World) (hh : h < 4294967296) (hs : s < 4294967296) (hx32 : x < 4294967296) (hr : decAtB h s m t = true) (l x0 ex v u : Nat) (hR : DecR h s (t - m) l x0 ex v) (hx : isFin .f32 x = true) (hu : floatBits .add .f32 v x = some u) (hub : isFin .f32 u = false) :
    Calls Try.prog 24 #[.agg #[.float .f32 h, .float .f32 s, .int .i64 m], .int .i64 t, .float .f32 x] w fun e w' => e = .returned (.tuple #[.agg #[.float .f32 0, .float .f32 0, .int .i64 0], .bool false]) ∧ Ext w w' := by
  have HH := Lib.hid hh
  have HS := Lib.hid hs
  have HX32 := Lib.hid hx32
  have HR := Lib.hid hr
  have BX := Lib.hid ((Box.alloc w #[.float .f32 h, .float .f32 s, .int .i64 m] 26).past (.cells #[.float .f32 0, .float .f32 0, .int .i64 0] 26))
  have BZ := Lib.hid (Box.alloc_at (w.alloc (.cells #[.float .f32 h, .float .f32 s, .int .i64 m] 26)) #[.float .f32 0, .float .f32 0, .int .i64 0] 26 (b := w.heap.size + 1) (by simp))
  have X0 := Lib.hid (((Ext.refl w).stepA (.cells #[.float .f32 h, .float .f32 s, .int .i64 m] 26)).stepA (.cells #[.float .f32 0, .float .f32 0, .int .i64 0] 26))
  obtain ⟨b0, b1, b2⟩ := BX.out.three
  have HDR := Lib.hid hR
  have HX := Lib.hid hx
  have hm1 : ∀ wx : World, (binOp .add 22 (.float .f32 v) (.float .f32 x)).run Try.prog wx = .ok (.float .f32 u) wx := fun wx => by
    rw [run_fl_add, flR_some hu, flD_some hu, World.drewN_zero]
  have HU := Lib.hid (show u < 4294967296 from bits_lt hu w)
  have HV := Lib.hid (show decB h u t = false by
    obtain ⟨ok, t0, t1⟩ := decAt_is hr
    unfold decB aboveB gt0; rw [ok.fh, ok.gt, hub, inB_isD.2 ⟨by have := ok.m0; omega, t1⟩]; rfl)
  clear hh hs hx32 hr hR hx hu hub
  go_enter Try.func24, Try.ntmps24
  go_wp2_with fail
  clear b0 b1 b2
  refine (c_impl_DecayAt_yes h s m t l x0 ex v _ HR.out HDR.out HH.out HS.out).mono ?_; rintro e w1 ⟨rfl, x1⟩
  have X1 := Lib.hid (X0.out.trans x1)
  have B1 := Lib.hid (BX.out.on x1)
  have Z1 := Lib.hid (BZ.out.on x1)
  obtain ⟨b0, b1, b2⟩ := B1.out.three
  obtain ⟨z0, z1, z2⟩ := Z1.out.three
  obtain ⟨f0, f1, f2, f3⟩ := Z1.out.free
  clear x1
  go_wp2_with fail
  clear b0 b1 b2 z0 z1 z2 f0 f1 f2 f3
  refine (c_impl_IsFinite_b x _ HX32.out HX.out).mono ?_; rintro e w2 ⟨rfl, q2, rfl⟩
  obtain ⟨b0, b1, b2⟩ := (B1.out.on (Ext.drewN _ q2)).three
  obtain ⟨z0, z1, z2⟩ := (Z1.out.on (Ext.drewN _ q2)).three
  obtain ⟨f0, f1, f2, f3⟩ := (Z1.out.on (Ext.drewN _ q2)).free
  go_wp2_with fail
  clear b0 b1 b2 z0 z1 z2 f0 f1 f2 f3
  refine (c_impl_decayIfValid_false h u t _ HV.out HH.out HU.out).mono ?_; rintro e w3 ⟨rfl, x3⟩
  have X3 : Ext w w3 := (X1.out.stepN _).trans x3
  have Z3 := Lib.hid ((Z1.out.on (Ext.drewN _ q2)).on x3)
  obtain ⟨z0, z1, z2⟩ := Z3.out.three
  obtain ⟨f0, f1, f2, f3⟩ := Z3.out.free
  clear x3
  go_wp2
  refine bodyPost_ret (v := .tuple #[.agg #[.float .f32 0, .float .f32 0, .int .i64 0], .bool false]) (by simp [results, Try.results24, go_sem, z0, z1, z2]) rfl ⟨rfl, ?_⟩
  (repeat (first | assumption | exact Ext.refl _ | (with_reducible refine Ext.stepS ?_ (by first | exact Nat.le_refl _ | (simp; done) | (simp; omega)) _) | (with_reducible refine Ext.stepN ?_ _) | (with_reducible refine Ext.stepD ?_) | (with_reducible refine Ext.stepA ?_ _)))
set_option maxHeartbeats 4000000 in
theorem c_impl_PutDecay_fint (h s : Nat) (m t : Int) (x : Nat) (w : World) (hh : h < 4294967296) (hs : s < 4294967296) (hx32 : x < 4294967296) (hr : decAtB h s m t = true) (l x0 ex v u : Nat) (hR : DecR h s (t - m) l x0 ex v) (hx : isFin .f32 x = true) (hu : floatBits .add .f32 v x = some u) (hub : isFin .f32 u = true) :
    Calls Try.prog 24 #[.agg #[.float .f32 h, .float .f32 s, .int .i64 m], .int .i64 t, .float .f32 x] w fun e w' => e = .returned (.tuple #[.agg #[.float .f32 h, .float .f32 u, .int .i64 t], .bool true]) ∧ Ext w w' := by
  have HH := Lib.hid hh
  have HS := Lib.hid hs
  have HX32 := Lib.hid hx32
  have HR := Lib.hid hr
  have BX := Lib.hid ((Box.alloc w #[.float .f32 h, .float .f32 s, .int .i64 m] 26).past (.cells #[.float .f32 0, .float .f32 0, .int .i64 0] 26))
  have BZ := Lib.hid (Box.alloc_at (w.alloc (.cells #[.float .f32 h, .float .f32 s, .int .i64 m] 26)) #[.float .f32 0, .float .f32 0, .int .i64 0] 26 (b := w.heap.size + 1) (by simp))
  have X0 := Lib.hid (((Ext.refl w).stepA (.cells #[.float .f32 h, .float .f32 s, .int .i64 m] 26)).stepA (.cells #[.float .f32 0, .float .f32 0, .int .i64 0] 26))
  obtain ⟨b0, b1, b2⟩ := BX.out.three
  have HDR := Lib.hid hR
  have HX := Lib.hid hx
  have hm1 : ∀ wx : World, (binOp .add 22 (.float .f32 v) (.float .f32 x)).run Try.prog wx = .ok (.float .f32 u) wx := fun wx => by
    rw [run_fl_add, flR_some hu, flD_some hu, World.drewN_zero]
  have HU := Lib.hid (show u < 4294967296 from bits_lt hu w)
  have HV := Lib.hid (show decB h u t = true by
    obtain ⟨ok, t0, t1⟩ := decAt_is hr
    unfold decB aboveB gt0; rw [ok.fh, ok.gt, hub, inB_isD.2 ⟨by have := ok.m0; omega, t1⟩]; rfl)
  clear hh hs hx32 hr hR hx hu hub
  go_enter Try.func24, Try.ntmps24
  go_wp2_with fail
  clear b0 b1 b2
  refine (c_impl_DecayAt_yes h s m t l x0 ex v _ HR.out HDR.out HH.out HS.out).mono ?_; rintro e w1 ⟨rfl, x1⟩
  have X1 := Lib.hid (X0.out.trans x1)
  have B1 := Lib.hid (BX.out.on x1)
  have Z1 := Lib.hid (BZ.out.on x1)
  obtain ⟨b0, b1, b2⟩ := B1.out.three
  obtain ⟨z0, z1, z2⟩ := Z1.out.three
  obtain ⟨f0, f1, f2, f3⟩ := Z1.out.free
  clear x1
  go_wp2_with fail
  clear b0 b1 b2 z0 z1 z2 f0 f1 f2 f3
  refine (c_impl_IsFinite_b x _ HX32.out HX.out).mono ?_; rintro e w2 ⟨rfl, q2, rfl⟩
  obtain ⟨b0, b1, b2⟩ := (B1.out.on (Ext.drewN _ q2)).three
  obtain ⟨z0, z1, z2⟩ := (Z1.out.on (Ext.drewN _ q2)).three
  obtain ⟨f0, f1, f2, f3⟩ := (Z1.out.on (Ext.drewN _ q2)).free
  go_wp2_with fail
  clear b0 b1 b2 z0 z1 z2 f0 f1 f2 f3
  refine (c_impl_decayIfValid_true h u t _ HV.out HH.out HU.out).mono ?_; rintro e w3 ⟨rfl, x3⟩
  have X3 : Ext w w3 := (X1.out.stepN _).trans x3
  have Z3 := Lib.hid ((Z1.out.on (Ext.drewN _ q2)).on x3)
  obtain ⟨z0, z1, z2⟩ := Z3.out.three
  obtain ⟨f0, f1, f2, f3⟩ := Z3.out.free
  clear x3
  go_wp2
  refine bodyPost_ret (v := .tuple #[.agg #[.float .f32 h, .float .f32 u, .int .i64 t], .bool true]) (by simp [results, Try.results24, go_sem, z0, z1, z2]) rfl ⟨rfl, ?_⟩
  (repeat (first | assumption | exact Ext.refl _ | (with_reducible refine Ext.stepS ?_ (by first | exact Nat.le_refl _ | (simp; done) | (simp; omega)) _) | (with_reducible refine Ext.stepN ?_ _) | (with_reducible refine Ext.stepD ?_) | (with_reducible refine Ext.stepA ?_ _)))
set_option maxHeartbeats 4000000 in
theorem c_spec_PutDecay_no1 (h s : Nat) (m t : Int) (x : Nat) (w : World) (hh : h < 4294967296) (hs : s < 4294967296) (hx32 : x < 4294967296) (hr : decAtB h s m t = false) :
    Calls Try.prog 23 #[.agg #[.float .f32 h, .float .f32 s, .int .i64 m], .int .i64 t, .float .f32 x] w fun e w' => e = .returned (.tuple #[.agg #[.float .f32 0, .float .f32 0, .int .i64 0], .bool false]) ∧ Ext w w' := by
  have HH := Lib.hid hh
  have HS := Lib.hid hs
  have HX32 := Lib.hid hx32
  have HR := Lib.hid hr
  have BX := Lib.hid ((Box.alloc w #[.float .f32 h, .float .f32 s, .int .i64 m] 26).past (.cells #[.float .f32 0, .float .f32 0, .int .i64 0] 26))
  have BZ := Lib.hid (Box.alloc_at (w.alloc (.cells #[.float .f32 h, .float .f32 s, .int .i64 m] 26)) #[.float .f32 0, .float .f32 0, .int .i64 0] 26 (b := w.heap.size + 1) (by simp))
  have X0 := Lib.hid (((Ext.refl w).stepA (.cells #[.float .f32 h, .float .f32 s, .int .i64 m] 26)).stepA (.cells #[.float .f32 0, .float .f32 0, .int .i64 0] 26))
  obtain ⟨b0, b1, b2⟩ := BX.out.three
  clear hh hs hx32 hr
  go_enter Try.func23, Try.ntmps23
  go_wp2_with fail
  clear b0 b1 b2
  refine (c_spec_DecayAt_no h s m t _ HR.out).mono ?_; rintro e w1 ⟨rfl, x1⟩
  have X1 := Lib.hid (X0.out.trans x1)
  have B1 := Lib.hid (BX.out.on x1)
  have Z1 := Lib.hid (BZ.out.on x1)
  obtain ⟨b0, b1, b2⟩ := B1.out.three
  obtain ⟨z0, z1, z2⟩ := Z1.out.three
  obtain ⟨f0, f1, f2, f3⟩ := Z1.out.free
  clear x1
  go_wp2_with fail
  (with_reducible refine upon_fl rfl ?_); intro u nu hu
  obtain ⟨wd, hwd⟩ : ∃ wd, w1.drewN nu = wd := ⟨_, rfl⟩
  have XD := Lib.hid (show Ext w wd by rw [← hwd]; exact X1.out.stepN _)
  have BD := Lib.hid (show Box wd w.heap.size 26 #[.float .f32 h, .float .f32 s, .int .i64 m] by rw [← hwd]; exact B1.out.on (Ext.drewN _ nu))
  have ZD := Lib.hid (show Box wd (w.heap.size + 1) 26 #[.float .f32 0, .float .f32 0, .int .i64 0] by rw [← hwd]; exact Z1.out.on (Ext.drewN _ nu))
  rw [hwd]
  clear hu hwd b0 b1 b2 z0 z1 z2 f0 f1 f2 f3
  obtain ⟨b0, b1, b2⟩ := BD.out.three
  obtain ⟨z0, z1, z2⟩ := (ZD.out.past (.cells #[.float .f32 h, .float .f32 u, .int .i64 t] 26)).three
  obtain ⟨f0, f1, f2, f3⟩ := (ZD.out.past (.cells #[.float .f32 h, .float .f32 u, .int .i64 t] 26)).free
  go_wp2
  refine bodyPost_ret (v := .tuple #[.agg #[.float .f32 0, .float .f32 0, .int .i64 0], .bool false]) (by simp [results, Try.results23, go_sem, z0, z1, z2]) rfl ⟨rfl, ?_⟩
  have := XD.out
  (repeat (first | assumption | exact Ext.refl _ | (with_reducible refine Ext.stepS ?_ (by first | exact Nat.le_refl _ | (simp; done) | (simp; omega)) _) | (with_reducible refine Ext.stepN ?_ _) | (with_reducible refine Ext.stepD ?_) | (with_reducible refine Ext.stepA ?_ _)))
set_option maxHeartbeats 4000000 in
theorem c_spec_PutDecay_no2 (h s : Nat) (m t : Int) (x : Nat) (w : World) (hh : h < 4294967296) (hs : s < 4294967296) (hx32 : x < 4294967296) (hr : decAtB h s m t = true) (l x0 ex v : Nat) (hR : DecR h s (t - m) l x0 ex v) (hx : isFin .f32 x = false) :
    Calls Try.prog 23 #[.agg #[.float .f32 h, .float .f32 s, .int .i64 m], .int .i64 t, .float .f32 x] w fun e w' => e = .returned (.tuple #[.agg #[.float .f32 0, .float .f32 0, .int .i64 0], .bool false]) ∧ Ext w w' := by
  have HH := Lib.hid hh
  have HS := Lib.hid hs
  have HX32 := Lib.hid hx32
  have HR := Lib.hid hr
  have BX := Lib.hid ((Box.alloc w #[.float .f32 h, .float .f32 s, .int .i64 m] 26).past (.cells #[.float .f32 0, .float .f32 0, .int .i64 0] 26))
  have BZ := Lib.hid (Box.alloc_at (w.alloc (.cells #[.float .f32 h, .float .f32 s, .int .i64 m] 26)) #[.float .f32 0, .float .f32 0, .int .i64 0] 26 (b := w.heap.size + 1) (by simp))
  have X0 := Lib.hid (((Ext.refl w).stepA (.cells #[.float .f32 h, .float .f32 s, .int .i64 m] 26)).stepA (.cells #[.float .f32 0, .float .f32 0, .int .i64 0] 26))
  obtain ⟨b0, b1, b2⟩ := BX.out.three
  have HDR := Lib.hid hR
  have HX := Lib.hid hx
  clear hh hs hx32 hr hR hx
  go_enter Try.func23, Try.ntmps23
  go_wp2_with fail
  clear b0 b1 b2
  refine (c_spec_DecayAt_yes h s m t l x0 ex v _ HR.out HDR.out).mono ?_; rintro e w1 ⟨rfl, x1⟩
  have X1 := Lib.hid (X0.out.trans x1)
  have B1 := Lib.hid (BX.out.on x1)
  have Z1 := Lib.hid (BZ.out.on x1)
  obtain ⟨b0, b1, b2⟩ := B1.out.three
  obtain ⟨z0, z1, z2⟩ := Z1.out.three
  obtain ⟨f0, f1, f2, f3⟩ := Z1.out.free
  clear x1
  go_wp2_with fail
  (with_reducible refine upon_fl rfl ?_); intro u nu hu
  obtain ⟨wd, hwd⟩ : ∃ wd, w1.drewN nu = wd := ⟨_, rfl⟩
  have XD := Lib.hid (show Ext w wd by rw [← hwd]; exact X1.out.stepN _)
  have BD := Lib.hid (show Box wd w.heap.size 26 #[.float .f32 h, .float .f32 s, .int .i64 m] by rw [← hwd]; exact B1.out.on (Ext.drewN _ nu))
  have ZD := Lib.hid (show Box wd (w.heap.size + 1) 26 #[.float .f32 0, .float .f32 0, .int .i64 0] by rw [← hwd]; exact Z1.out.on (Ext.drewN _ nu))
  rw [hwd]
  clear hu hwd b0 b1 b2 z0 z1 z2 f0 f1 f2 f3
  obtain ⟨b0, b1, b2⟩ := BD.out.three
  obtain ⟨z0, z1, z2⟩ := (ZD.out.past (.cells #[.float .f32 h, .float .f32 u, .int .i64 t] 26)).three
  obtain ⟨f0, f1, f2, f3⟩ := (ZD.out.past (.cells #[.float .f32 h, .float .f32 u, .int .i64 t] 26)).free
  go_wp2_with fail
  clear b0 b1 b2 z0 z1 z2 f0 f1 f2 f3
  refine (c_spec_l01Finite_b x _ HX.out).mono ?_; rintro e w2 ⟨rfl, q2, rfl⟩
  obtain ⟨z0, z1, z2⟩ := ((ZD.out.past (.cells #[.float .f32 h, .float .f32 u, .int .i64 t] 26)).on (Ext.drewN _ q2)).three
  obtain ⟨f0, f1, f2, f3⟩ := ((ZD.out.past (.cells #[.float .f32 h, .float .f32 u, .int .i64 t] 26)).on (Ext.drewN _ q2)).free
  go_wp2
  refine bodyPost_ret (v := .tuple #[.agg #[.float .f32 0, .float .f32 0, .int .i64 0], .bool false]) (by simp [results, Try.results23, go_sem, z0, z1, z2]) rfl ⟨rfl, ?_⟩
  have := XD.out
  (repeat (first | assumption | exact Ext.refl _ | (with_reducible refine Ext.stepS ?_ (by first | exact Nat.le_refl _ | (simp; done) | (simp; omega)) _) | (with_reducible refine Ext.stepN ?_ _) | (with_reducible refine Ext.stepD ?_) | (with_reducible refine Ext.stepA ?_ _)))
set_option maxHeartbeats 4000000 in
theorem c_spec_PutDecay_finf (h s : Nat) (m t : Int) (x : Nat) (w : World) (hh : h < 4294967296) (hs : s < 4294967296) (hx32 : x < 4294967296) (hr : decAtB h s m t = true) (l x0 ex v u : Nat) (hR : DecR h s (t - m) l x0 ex v) (hx : isFin .f32 x = true) (hu : floatBits .add .f32 v x = some u) (hub : isFin .f32 u = false) :
    Calls Try.prog 23 #[.agg #[.float .f32 h, .float .f32 s, .int .i64 m], .int .i64 t, .float .f32 x] w fun e w' => e = .returned (.tuple #[.agg #[.float .f32 0, .float .f32 0, .int .i64 0], .bool false]) ∧ Ext w w' := by
  have HH := Lib.hid hh
  have HS := Lib.hid hs
  have HX32 := Lib.hid hx32
  have HR := Lib.hid hr
  have BX := Lib.hid ((Box.alloc w #[.float .f32 h, .float .f32 s, .int .i64 m] 26).past (.cells #[.float .f32 0, .float .f32 0, .int .i64 0] 26))
  have BZ := Lib.hid (Box.alloc_at (w.alloc (.cells #[.float .f32 h, .float .f32 s, .int .i64 m] 26)) #[.float .f32 0, .float .f32 0, .int .i64 0] 26 (b := w.heap.size + 1) (by simp))
  have X0 := Lib.hid (((Ext.refl w).stepA (.cells #[.float .f32 h, .float .f32 s, .int .i64 m] 26)).stepA (.cells #[.float .f32 0, .float .f32 0, .int .i64 0] 26))
  obtain ⟨b0, b1, b2⟩ := BX.out.three
  have HDR := Lib.hid hR
  have HX := Lib.hid hx
  have hm1 : ∀ wx : World, (binOp .add 22 (.float .f32 v) (.float .f32 x)).run Try.prog wx = .ok (.float .f32 u) wx := fun wx => by
    rw [run_fl_add, flR_some hu, flD_some hu, World.drewN_zero]
  have HU := Lib.hid (show u < 4294967296 from bits_lt hu w)
  have HV := Lib.hid (show decB h u t = false by
    obtain ⟨ok, t0, t1⟩ := decAt_is hr
    unfold decB aboveB gt0; rw [ok.fh, ok.gt, hub, inB_isD.2 ⟨by have := ok.m0; omega, t1⟩]; rfl)
  clear hh hs hx32 hr hR hx hu hub
  go_enter Try.func23, Try.ntmps23
  go_wp2_with fail
  clear b0 b1 b2
  refine (c_spec_DecayAt_yes h s m t l x0 ex v _ HR.out HDR.out).mono ?_; rintro e w1 ⟨rfl, x1⟩
  have X1 := Lib.hid (X0.out.trans x1)
  have B1 := Lib.hid (BX.out.on x1)
  have Z1 := Lib.hid (BZ.out.on x1)
  obtain ⟨b0, b1, b2⟩ := B1.out.three
  obtain ⟨z0, z1, z2⟩ := Z1.out.three
  obtain ⟨f0, f1, f2, f3⟩ := Z1.out.free
  clear x1
  have BU := Lib.hid (Box.alloc w1 #[.float .f32 h, .float .f32 u, .int .i64 t] 26)
  have XU := Lib.hid (X1.out.stepA (.cells #[.float .f32 h, .float .f32 u, .int .i64 t] 26))
  have ZU := Lib.hid (Z1.out.past (.cells #[.float .f32 h, .float .f32 u, .int .i64 t] 26))
  go_wp2_with fail
  clear b0 b1 b2 z0 z1 z2 f0 f1 f2 f3
  refine (c_spec_l01Finite_b x _ HX.out).mono ?_; rintro e w2 ⟨rfl, q2, rfl⟩
  go_wp2_with fail
  refine (c_spec_l06Decay _ h u t _ HV.out (BU.out.on (Ext.drewN _ q2))).mono ?_; rintro e w3 ⟨rfl, x3⟩
  have X3 : Ext w w3 := (XU.out.stepN _).trans x3
  obtain ⟨z0, z1, z2⟩ := ((ZU.out.on (Ext.drewN _ q2)).on x3).three
  obtain ⟨f0, f1, f2, f3⟩ := ((ZU.out.on (Ext.drewN _ q2)).on x3).free
  obtain ⟨u0, u1, u2⟩ := ((BU.out.on (Ext.drewN _ q2)).on x3).three
  clear x3
  go_wp2
  refine bodyPost_ret (v := .tuple #[.agg #[.float .f32 0, .float .f32 0, .int .i64 0], .bool false]) (by simp [results, Try.results23, go_sem, z0, z1, z2]) rfl ⟨rfl, ?_⟩
  (repeat (first | assumption | exact Ext.refl _ | (with_reducible refine Ext.stepS ?_ (by first | exact Nat.le_refl _ | (simp; done) | (simp; omega)) _) | (with_reducible refine Ext.stepN ?_ _) | (with_reducible refine Ext.stepD ?_) | (with_reducible refine Ext.stepA ?_ _)))
set_option maxHeartbeats 4000000 in
theorem c_spec_PutDecay_fint (h s : Nat) (m t : Int) (x : Nat) (w : World) (hh : h < 4294967296) (hs : s < 4294967296) (hx32 : x < 4294967296) (hr : decAtB h s m t = true) (l x0 ex v u : Nat) (hR : DecR h s (t - m) l x0 ex v) (hx : isFin .f32 x = true) (hu : floatBits .add .f32 v x = some u) (hub : isFin .f32 u = true) :
    Calls Try.prog 23 #[.agg #[.float .f32 h, .float .f32 s, .int .i64 m], .int .i64 t, .float .f32 x] w fun e w' => e = .returned (.tuple #[.agg #[.float .f32 h, .float .f32 u, .int .i64 t], .bool true]) ∧ Ext w w' := by
  have HH := Lib.hid hh
  have HS := Lib.hid hs
  have HX32 := Lib.hid hx32
  have HR := Lib.hid hr
  have BX := Lib.hid ((Box.alloc w #[.float .f32 h, .float .f32 s, .int .i64 m] 26).past (.cells #[.float .f32 0, .float .f32 0, .int .i64 0] 26))
  have BZ := Lib.hid (Box.alloc_at (w.alloc (.cells #[.float .f32 h, .float .f32 s, .int .i64 m] 26)) #[.float .f32 0, .float .f32 0, .int .i64 0] 26 (b := w.heap.size + 1) (by simp))
  have X0 := Lib.hid (((Ext.refl w).stepA (.cells #[.float .f32 h, .float .f32 s, .int .i64 m] 26)).stepA (.cells #[.float .f32 0, .float .f32 0, .int .i64 0] 26))
  obtain ⟨b0, b1, b2⟩ := BX.out.three
  have HDR := Lib.hid hR
  have HX := Lib.hid hx
  have hm1 : ∀ wx : World, (binOp .add 22 (.float .f32 v) (.float .f32 x)).run Try.prog wx = .ok (.float .f32 u) wx := fun wx => by
    rw [run_fl_add, flR_some hu, flD_some hu, World.drewN_zero]
  have HU := Lib.hid (show u < 4294967296 from bits_lt hu w)
  have HV := Lib.hid (show decB h u t = true by
    obtain ⟨ok, t0, t1⟩ := decAt_is hr
    unfold decB aboveB gt0; rw [ok.fh, ok.gt, hub, inB_isD.2 ⟨by have := ok.m0; omega, t1⟩]; rfl)
  clear hh hs hx32 hr hR hx hu hub
  go_enter Try.func23, Try.ntmps23
  go_wp2_with fail
  clear b0 b1 b2
  refine (c_spec_DecayAt_yes h s m t l x0 ex v _ HR.out HDR.out).mono ?_; rintro e w1 ⟨rfl, x1⟩
  have X1 := Lib.hid (X0.out.trans x1)
  have B1 := Lib.hid (BX.out.on x1)
  have Z1 := Lib.hid (BZ.out.on x1)
  obtain ⟨b0, b1, b2⟩ := B1.out.three
  obtain ⟨z0, z1, z2⟩ := Z1.out.three
  obtain ⟨f0, f1, f2, f3⟩ := Z1.out.free
  clear x1
  have BU := Lib.hid (Box.alloc w1 #[.float .f32 h, .float .f32 u, .int .i64 t] 26)
  have XU := Lib.hid (X1.out.stepA (.cells #[.float .f32 h, .float .f32 u, .int .i64 t] 26))
  have ZU := Lib.hid (Z1.out.past (.cells #[.float .f32 h, .float .f32 u, .int .i64 t] 26))
  go_wp2_with fail
  clear b0 b1 b2 z0 z1 z2 f0 f1 f2 f3
  refine (c_spec_l01Finite_b x _ HX.out).mono ?_; rintro e w2 ⟨rfl, q2, rfl⟩
  go_wp2_with fail
  refine (c_spec_l06Decay _ h u t _ HV.out (BU.out.on (Ext.drewN _ q2))).mono ?_; rintro e w3 ⟨rfl, x3⟩
  have X3 : Ext w w3 := (XU.out.stepN _).trans x3
  obtain ⟨z0, z1, z2⟩ := ((ZU.out.on (Ext.drewN _ q2)).on x3).three
  obtain ⟨f0, f1, f2, f3⟩ := ((ZU.out.on (Ext.drewN _ q2)).on x3).free
  obtain ⟨u0, u1, u2⟩ := ((BU.out.on (Ext.drewN _ q2)).on x3).three
  clear x3
  go_wp2
  refine bodyPost_ret (v := .tuple #[.agg #[.float .f32 h, .float .f32 u, .int .i64 t], .bool true]) (by simp [results, Try.results23, go_sem, z0, z1, z2]) rfl ⟨rfl, ?_⟩
  (repeat (first | assumption | exact Ext.refl _ | (with_reducible refine Ext.stepS ?_ (by first | exact Nat.le_refl _ | (simp; done) | (simp; omega)) _) | (with_reducible refine Ext.stepN ?_ _) | (with_reducible refine Ext.stepD ?_) | (with_reducible refine Ext.stepA ?_ _)))
theorem put_both (h s : Nat) (m t : Int) (x : Nat) (hh : h < 4294967296) (hs : s < 4294967296) (hx : x < 4294967296) : ∃ (h' s' : Nat) (m' : Int) (b : Bool), isFin .f32 h' = true ∧ isFin .f32 s' = true ∧
    (∀ w, Calls Try.prog 23 #[.agg #[.float .f32 h, .float .f32 s, .int .i64 m], .int .i64 t, .float .f32 x] w fun e w' => e = .returned (.tuple #[.agg #[.float .f32 h', .float .f32 s', .int .i64 m'], .bool b]) ∧ Ext w w') ∧
    (∀ w, Calls Try.prog 24 #[.agg #[.float .f32 h, .float .f32 s, .int .i64 m], .int .i64 t, .float .f32 x] w fun e w' => e = .returned (.tuple #[.agg #[.float .f32 h', .float .f32 s', .int .i64 m'], .bool b]) ∧ Ext w w') := by
  have z : isFin .f32 0 = true := by kernel_rfl
  cases hr : decAtB h s m t
  · exact ⟨0, 0, 0, false, z, z, fun w => c_spec_PutDecay_no1 h s m t x w hh hs hx hr, fun w => c_impl_PutDecay_no1 h s m t x w hh hs hx hr⟩
  obtain ⟨ok, t0, t1⟩ := decAt_is hr
  obtain ⟨l, x0, ex, v, hR⟩ := decay_ex ok.fh ok.gt ok.fs (show 0 ≤ t - m by omega) (show t - m ≤ 1000000 by have := ok.m0; omega)
  cases hf : isFin .f32 x
  · exact ⟨0, 0, 0, false, z, z, fun w => c_spec_PutDecay_no2 h s m t x w hh hs hx hr l x0 ex v hR hf, fun w => c_impl_PutDecay_no2 h s m t x w hh hs hx hr l x0 ex v hR hf⟩
  obtain ⟨u, hu⟩ := add_ex hR.fin hf
  cases hub : isFin .f32 u
  · exact ⟨0, 0, 0, false, z, z, fun w => c_spec_PutDecay_finf h s m t x w hh hs hx hr l x0 ex v u hR hf hu hub, fun w => c_impl_PutDecay_finf h s m t x w hh hs hx hr l x0 ex v u hR hf hu hub⟩
  · exact ⟨h, u, t, true, ok.fh, hub, fun w => c_spec_PutDecay_fint h s m t x w hh hs hx hr l x0 ex v u hR hf hu hub, fun w => c_impl_PutDecay_fint h s m t x w hh hs hx hr l x0 ex v u hR hf hu hub⟩
theorem at_both (h s : Nat) (m t : Int) (hh : h < 4294967296) (hs : s < 4294967296) : ∃ (v : Nat) (b : Bool), isFin .f32 v = true ∧
    (∀ w, Calls Try.prog 20 #[.agg #[.float .f32 h, .float .f32 s, .int .i64 m], .int .i64 t] w fun e w' => e = .returned (.tuple #[.float .f32 v, .bool b]) ∧ Ext w w') ∧
    (∀ w, Calls Try.prog 21 #[.agg #[.float .f32 h, .float .f32 s, .int .i64 m], .int .i64 t] w fun e w' => e = .returned (.tuple #[.float .f32 v, .bool b]) ∧ Ext w w') := by
  have z : isFin .f32 0 = true := by kernel_rfl
  cases hr : decAtB h s m t
  · exact ⟨0, false, z, fun w => c_spec_DecayAt_no h s m t w hr, fun w => c_impl_DecayAt_no h s m t w hr hh hs⟩
  obtain ⟨ok, t0, t1⟩ := decAt_is hr
  obtain ⟨l, x0, ex, v, hR⟩ := decay_ex ok.fh ok.gt ok.fs (show 0 ≤ t - m by omega) (show t - m ≤ 1000000 by have := ok.m0; omega)
  exact ⟨v, true, hR.fin, fun w => c_spec_DecayAt_yes h s m t l x0 ex v w hr hR, fun w => c_impl_DecayAt_yes h s m t l x0 ex v w hr hR hh hs⟩
end Go.Proofs.Ytmlnnnagbkknhab
