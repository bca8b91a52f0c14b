/- The walk of the law FnExactNewSieve. -/
import Derived.Test.YtfolflkbpdbkcaaLkv
import Derived.Test.YtfolflkbpdbkcaaSiv
import Derived.Deep.RegionHeld3
import Derived.Deep.DeepCutAuto
import Derived.Deep.LoopGhost
import Derived.WalkLawsBesides
namespace Go.Proofs.Ytfolflkbpdbkcaa
open Go.ChangeShapes Go.WideShapes Go.ChangeAt Go.RowKit
set_option linter.unusedVariables false
set_option maxHeartbeats 8000000 in
theorem walk_FnExactNewSieve (a0 : Int) (a1 : Int) (a2 : Int) (w : World) (w0 : (Lit.int .i64 a0).wf = true) (w1 : (Lit.int .i64 a1).wf = true) (w2 : (Lit.int .i64 a2).wf = true) :
    Calls Try.prog 5 #[.int .i64 a0, .int .i64 a1, .int .i64 a2] w fun e w' => e = .returned (.bool true) ∧ Below w.heap.size w w' := by
  clear w0
  clear w1
  clear w2
  have B0 := Lib.hid (show Ext w w from Ext.refl w)
  obtain ⟨rR, rS, rz, rb, hR⟩ : ∃ R S z b, newSieveR a0 a1 a2 = ((⟨R, S, z⟩ : SV), b) := ⟨_, _, _, _, rfl⟩
  have RL := Lib.hid (show rz.length ≤ 1048576 from newSieveR_le hR)
  have HV := Lib.hid hR
  clear hR
  go_enter Try.func5, Try.ntmps5
  go_wp2_with fail
  refine (c_spec_NewSieve a0 a1 a2 _ HV.out ).mono ?_; rintro e u1 ⟨a_w, c_w, rfl, o', x'⟩
  have B1 := Lib.hid (B0.out.trans x')
  have Ow_1 := Lib.hid (o'.wide (lo' := w.heap.size) (hi' := u1.heap.size) (by first | omega | (simp; done) | (simp; omega)) (Nat.le_refl _)); clear o'
  have SZ1 := Lib.hid (show w.heap.size ≤ u1.heap.size from Nat.le_trans (by first | omega | (simp; done) | (simp; omega)) x'.size); clear x'
  replace B1 := Lib.hid (B1.out.stepA (.cells #[.int .i64 rR, .int .i64 rS, .slice a_w rz.length c_w] 27))
  replace Ow_1 := Lib.hid (Ow_1.out.on (Ext.alloc u1 (.cells #[.int .i64 rR, .int .i64 rS, .slice a_w rz.length c_w] 27)))
  have Bw_1 := Lib.hid (Box.alloc u1 #[.int .i64 rR, .int .i64 rS, .slice a_w rz.length c_w] 27)
  go_wp2_with fail
  refine (c_impl_NewSieve a0 a1 a2 _ HV.out ).mono ?_; rintro e u2 ⟨a_g, c_g, rfl, o', x'⟩
  have B2 := Lib.hid (B1.out.trans x')
  have Bw_2 := Lib.hid (Bw_1.out.on x')
  have Ow_2 := Lib.hid (Ow_1.out.on x')
  have Og_2 := Lib.hid (o'.wide (lo' := u1.heap.size + 1) (hi' := u2.heap.size) (by first | omega | (simp; done) | (simp; omega)) (Nat.le_refl _)); clear o'
  have SZ2 := Lib.hid (show u1.heap.size + 1 ≤ u2.heap.size from Nat.le_trans (by first | omega | (simp; done) | (simp; omega)) x'.size); clear x'
  replace B2 := Lib.hid (B2.out.stepA (.cells #[.int .i64 rR, .int .i64 rS, .slice a_g rz.length c_g] 27))
  replace Bw_2 := Lib.hid (Bw_2.out.past (.cells #[.int .i64 rR, .int .i64 rS, .slice a_g rz.length c_g] 27))
  replace Ow_2 := Lib.hid (Ow_2.out.on (Ext.alloc u2 (.cells #[.int .i64 rR, .int .i64 rS, .slice a_g rz.length c_g] 27)))
  replace Og_2 := Lib.hid (Og_2.out.on (Ext.alloc u2 (.cells #[.int .i64 rR, .int .i64 rS, .slice a_g rz.length c_g] 27)))
  have Bg_2 := Lib.hid (Box.alloc u2 #[.int .i64 rR, .int .i64 rS, .slice a_g rz.length c_g] 27)
  obtain ⟨fg0, fg1, fg2⟩ := Bg_2.out.three
  obtain ⟨fw0, fw1, fw2⟩ := Bw_2.out.three
  go_wp2_with fail
  clear fg0 fg1 fg2 fw0 fw1 fw2
  refine (c_eqV rR rS _ _ _ _ _ rz _ RL.out Og_2.out.reads Ow_2.out.reads).mono ?_; rintro e u3 ⟨rfl, x'⟩
  have B3 := Lib.hid (B2.out.trans x')
  have Bw_3 := Lib.hid (Bw_2.out.on x')
  have Bg_3 := Lib.hid (Bg_2.out.on x')
  have Ow_3 := Lib.hid (Ow_2.out.on x')
  have Og_3 := Lib.hid (Og_2.out.on x')
  have SZ3 := Lib.hid (show u2.heap.size + 1 ≤ u3.heap.size from Nat.le_trans (by first | omega | (simp; done) | (simp; omega)) x'.size); clear x'
  obtain ⟨fg0, fg1, fg2⟩ := Bg_3.out.three
  go_wp2_with fail
  clear fg0 fg1 fg2
  refine (c_markV rR rS (u1.heap.size + 1) (u2.heap.size) _ _ _ 1 _ _ RL.out (by decide) Og_3.out (by have := SZ1.out; have := SZ2.out; have := SZ3.out; omega)).mono ?_; rintro e u4 ⟨rfl, o', t'⟩
  have B4 := Lib.hid (Touch.ext B3.out t' (by have := SZ1.out; have := SZ2.out; have := SZ3.out; omega))
  have Bw_4 := Lib.hid (Bw_3.out.beside t' (by have := SZ1.out; have := SZ2.out; have := SZ3.out; omega))
  have Bg_4 := Lib.hid (Bg_3.out.beside t' (by have := SZ1.out; have := SZ2.out; have := SZ3.out; omega))
  have Ow_4 := Lib.hid (Ow_3.out.beside t' (by have := SZ1.out; have := SZ2.out; have := SZ3.out; omega))
  have Og_4 := Lib.hid o'
  have SZ4 := Lib.hid (show u3.heap.size ≤ u4.heap.size from Nat.le_trans (by first | omega | (simp; done) | (simp; omega)) t'.size); clear o' t'
  obtain ⟨fg0, fg1, fg2⟩ := Bg_4.out.three
  go_wp2_with fail
  clear fg0 fg1 fg2
  refine (c_heldV rR rS _ _ _ 1 _ RL.out (by decide) Og_4.out.reads).mono ?_; rintro e u5 ⟨rfl, x'⟩
  have B5 := Lib.hid (B4.out.trans x')
  have Bw_5 := Lib.hid (Bw_4.out.on x')
  have Bg_5 := Lib.hid (Bg_4.out.on x')
  have Ow_5 := Lib.hid (Ow_4.out.on x')
  have Og_5 := Lib.hid (Og_4.out.on x')
  have SZ5 := Lib.hid (show u4.heap.size ≤ u5.heap.size from Nat.le_trans (by first | omega | (simp; done) | (simp; omega)) x'.size); clear x'
  go_wp2_with fail
  refine (c_impl_NewSieve a0 a1 a2 _ HV.out ).mono ?_; rintro e u6 ⟨a_h, c_h, rfl, o', x'⟩
  have B6 := Lib.hid (B5.out.trans x')
  have Bw_6 := Lib.hid (Bw_5.out.on x')
  have Bg_6 := Lib.hid (Bg_5.out.on x')
  have Ow_6 := Lib.hid (Ow_5.out.on x')
  have Og_6 := Lib.hid (Og_5.out.on x')
  have Oh_6 := Lib.hid (o'.wide (lo' := u5.heap.size) (hi' := u6.heap.size) (by first | omega | (simp; done) | (simp; omega)) (Nat.le_refl _)); clear o'
  have SZ6 := Lib.hid (show u5.heap.size ≤ u6.heap.size from Nat.le_trans (by first | omega | (simp; done) | (simp; omega)) x'.size); clear x'
  replace B6 := Lib.hid (B6.out.stepA (.cells #[.int .i64 rR, .int .i64 rS, .slice a_h rz.length c_h] 27))
  replace Bw_6 := Lib.hid (Bw_6.out.past (.cells #[.int .i64 rR, .int .i64 rS, .slice a_h rz.length c_h] 27))
  replace Bg_6 := Lib.hid (Bg_6.out.past (.cells #[.int .i64 rR, .int .i64 rS, .slice a_h rz.length c_h] 27))
  replace Ow_6 := Lib.hid (Ow_6.out.on (Ext.alloc u6 (.cells #[.int .i64 rR, .int .i64 rS, .slice a_h rz.length c_h] 27)))
  replace Og_6 := Lib.hid (Og_6.out.on (Ext.alloc u6 (.cells #[.int .i64 rR, .int .i64 rS, .slice a_h rz.length c_h] 27)))
  replace Oh_6 := Lib.hid (Oh_6.out.on (Ext.alloc u6 (.cells #[.int .i64 rR, .int .i64 rS, .slice a_h rz.length c_h] 27)))
  have Bh_6 := Lib.hid (Box.alloc u6 #[.int .i64 rR, .int .i64 rS, .slice a_h rz.length c_h] 27)
  obtain ⟨fh0, fh1, fh2⟩ := Bh_6.out.three
  obtain ⟨fw0, fw1, fw2⟩ := Bw_6.out.three
  go_wp2_with fail
  clear fh0 fh1 fh2 fw0 fw1 fw2
  refine (c_eqV rR rS _ _ _ _ _ rz _ RL.out Oh_6.out.reads Ow_6.out.reads).mono ?_; rintro e u7 ⟨rfl, x'⟩
  have B7 := Lib.hid (B6.out.trans x')
  have Bw_7 := Lib.hid (Bw_6.out.on x')
  have Bg_7 := Lib.hid (Bg_6.out.on x')
  have Bh_7 := Lib.hid (Bh_6.out.on x')
  have Ow_7 := Lib.hid (Ow_6.out.on x')
  have Og_7 := Lib.hid (Og_6.out.on x')
  have Oh_7 := Lib.hid (Oh_6.out.on x')
  have SZ7 := Lib.hid (show u6.heap.size + 1 ≤ u7.heap.size from Nat.le_trans (by first | omega | (simp; done) | (simp; omega)) x'.size); clear x'
  obtain ⟨fg0, fg1, fg2⟩ := Bg_7.out.three
  go_wp2_with fail
  clear fg0 fg1 fg2
  refine (c_heldV rR rS _ _ _ 1 _ RL.out (by decide) Og_7.out.reads).mono ?_; rintro e u8 ⟨rfl, x'⟩
  have B8 := Lib.hid (B7.out.trans x')
  have Bw_8 := Lib.hid (Bw_7.out.on x')
  have Bg_8 := Lib.hid (Bg_7.out.on x')
  have Bh_8 := Lib.hid (Bh_7.out.on x')
  have Ow_8 := Lib.hid (Ow_7.out.on x')
  have Og_8 := Lib.hid (Og_7.out.on x')
  have Oh_8 := Lib.hid (Oh_7.out.on x')
  have SZ8 := Lib.hid (show u7.heap.size ≤ u8.heap.size from Nat.le_trans (by first | omega | (simp; done) | (simp; omega)) x'.size); clear x'
  go_wp2
  go_ret
  exact ⟨rfl, B8.out⟩
end Go.Proofs.Ytfolflkbpdbkcaa
