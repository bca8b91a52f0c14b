/- The walk of the law FnExactPutDecay. -/
import Derived.Test.YtmlnnnagbkknhabDcd
import Derived.Test.YtmlnnnagbkknhabAgf
import Derived.WalkLawsBesides
namespace Go.Proofs.Ytmlnnnagbkknhab
open Go.ChangeShapes Go.WideShapes Go.ChangeAt Go.RowKit Go.Proofs.Ytmlnnnagbkknhab.Flo
set_option linter.unusedVariables false
attribute [local go_sem] run_store_float
set_option maxHeartbeats 4000000 in
theorem walk_FnExactPutDecay (a0 a1 : Nat) (a2 : Int) (t : Int) (x : Nat) (w : World) (w0 : (Lit.float .f32 a0).wf = true) (w1 : (Lit.float .f32 a1).wf = true) (w2 : (Lit.int .i64 a2).wf = true) (w3 : (Lit.int .i64 t).wf = true) (w4 : (Lit.float .f32 x).wf = true) :
    Calls Try.prog 6 #[.agg #[.float .f32 a0, .float .f32 a1, .int .i64 a2], .int .i64 t, .float .f32 x] w fun e w' => e = .returned (.bool true) ∧ Below w.heap.size w w' := by
  obtain ⟨h', s', m', b, f1, f2, cs, ci⟩ := put_both a0 a1 a2 t x (show a0 < 4294967296 from lt_of_wf w0) (show a1 < 4294967296 from lt_of_wf w1) (show x < 4294967296 from lt_of_wf w4)
  have CS := Lib.hid cs
  have CI := Lib.hid ci
  have F1 := Lib.hid f1
  have F2 := Lib.hid f2
  have BA := Lib.hid (Box.alloc w #[.float .f32 a0, .float .f32 a1, .int .i64 a2] 24)
  have X0 := Lib.hid (Ext.alloc w (.cells #[.float .f32 a0, .float .f32 a1, .int .i64 a2] 24))
  obtain ⟨p0, p1, p2⟩ := BA.out.three
  have hbb : (b != b) = false := by simp
  have hb2 : (b == b) = true := by simp
  clear w0 w1 w2 w3 w4 cs ci f1 f2
  go_enter Try.func6, Try.ntmps6
  go_wp2_with fail
  clear p0 p1 p2
  refine (c_toD a0 a1 a2 _).mono ?_; rintro e u1 ⟨rfl, x1⟩
  go_wp2_with fail
  refine (CS.out _).mono ?_; rintro e u2 ⟨rfl, x2⟩
  have X2 := Lib.hid (x1.trans x2)
  have BW := Lib.hid (Box.alloc u2 #[.float .f32 h', .float .f32 s', .int .i64 m'] 26)
  obtain ⟨p0, p1, p2⟩ := ((BA.out.on X2.out).past (.cells #[.float .f32 h', .float .f32 s', .int .i64 m'] 26)).three
  have hsz : u2.heap.size ≠ w.heap.size := by have := (BA.out.on X2.out).lt; omega
  have hsz' : w.heap.size ≠ u2.heap.size := fun h => hsz h.symm
  clear x1 x2
  go_wp2_with fail
  clear p0 p1 p2
  refine (c_toD a0 a1 a2 _).mono ?_; rintro e u3 ⟨rfl, x3⟩
  go_wp2_with fail
  refine (CI.out _).mono ?_; rintro e u4 ⟨rfl, x4⟩
  have X4 := Lib.hid (x3.trans x4)
  have BG := Lib.hid (Box.alloc u4 #[.float .f32 h', .float .f32 s', .int .i64 m'] 26)
  have BW4 := Lib.hid ((BW.out.on X4.out).past (.cells #[.float .f32 h', .float .f32 s', .int .i64 m'] 26))
  obtain ⟨g0, g1, g2⟩ := BG.out.three
  obtain ⟨k0, k1, k2⟩ := BW4.out.three
  have hsq : u4.heap.size ≠ u2.heap.size := by have := (BW.out.on X4.out).lt; omega
  have hsq' : u2.heap.size ≠ u4.heap.size := fun h => hsq h.symm
  have X6 := Lib.hid ((X0.out.trans (X2.out.stepA (.cells #[.float .f32 h', .float .f32 s', .int .i64 m'] 26))).trans (X4.out.stepA (.cells #[.float .f32 h', .float .f32 s', .int .i64 m'] 26)))
  clear x3 x4
  go_wp2_with fail
  clear g0 g1 g2 k0 k1 k2
  refine (c_eqD h' s' m' _ F1.out F2.out).mono ?_; rintro e u7 ⟨rfl, x7⟩
  go_wp2
  go_ret
  exact ⟨rfl, X6.out.trans x7⟩
end Go.Proofs.Ytmlnnnagbkknhab
