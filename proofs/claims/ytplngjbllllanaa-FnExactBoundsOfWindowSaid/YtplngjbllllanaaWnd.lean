/- NewWindow: both sides. -/
import Derived.Test.YtplngjbllllanaaWna
namespace Go.Proofs.Ytplngjbllllanaa
open Go.ChangeShapes Go.WideShapes Go.ChangeAt Go.RowKit
set_option linter.unusedVariables false
def newW (L P : Int) : NV × Bool := if inB 1 L 1000000 && inB 1 P 16 then (⟨L, P, [], []⟩, true) else (NV.no, false)
theorem newW_win (L P : Int) : winB L P [] [] = (inB 1 L 1000000 && inB 1 P 16) := by
  have h1 : timesB [] = true := allTo_yes fun i hi => by simp at hi
  have h2 : sizesB (P + 1).toNat [] = true := allTo_yes fun i hi => by simp at hi
  unfold winB winD
  rw [h1, h2]
  cases inB 1 L 1000000 <;> cases inB 1 P 16 <;> rfl
theorem newW_yes {L P : Int} (h : (inB 1 L 1000000 && inB 1 P 16) = true) : newW L P = (⟨L, P, [], []⟩, true) := if_pos h
theorem newW_no {L P : Int} (h : (inB 1 L 1000000 && inB 1 P 16) = false) : newW L P = (NV.no, false) := if_neg (by rw [h]; decide)
theorem newW_le {L P : Int} {c : NV} {b : Bool} (h : newW L P = (c, b)) : c.ts.length + c.zs.length ≤ 1048576 := by
  cases hi : (inB 1 L 1000000 && inB 1 P 16)
  · rw [newW_no hi] at h; simp only [Prod.mk.injEq] at h; obtain ⟨rfl, rfl⟩ := h; exact Nat.zero_le _
  · rw [newW_yes hi] at h; simp only [Prod.mk.injEq] at h; obtain ⟨rfl, rfl⟩ := h; exact Nat.zero_le _
set_option maxHeartbeats 2000000 in
theorem c_impl_windowIfValid_yes (L P : Int) (a1 : Option Addr) (cap1 : Nat) (ts : List Int) (a2 : Option Addr) (cap2 : Nat) (zs : List Int) (w : World) (hr : winB L P ts zs = true) (hl : ts.length + zs.length ≤ 1048576) (h : Reads2 w a1 ts.length (ints ts) a2 zs.length (ints zs)) :
    Calls Try.prog 86 #[.agg #[.int .i64 L, .int .i64 P, .slice a1 ts.length cap1, .slice a2 zs.length cap2]] w fun e w' => e = .returned (.tuple #[.agg #[.int .i64 L, .int .i64 P, .slice a1 ts.length cap1, .slice a2 zs.length cap2], .bool true]) ∧ Ext w w' := by
  have HR := Lib.hid hr
  have HL := Lib.hid hl
  have H := Lib.hid h
  have BX := Lib.hid ((Box.alloc w #[.int .i64 L, .int .i64 P, .slice a1 ts.length cap1, .slice a2 zs.length cap2] 46).past (.cells #[.int .i64 0, .int .i64 0, .slice none 0 0, .slice none 0 0] 46))
  have BZ := Lib.hid (Box.alloc_at (w.alloc (.cells #[.int .i64 L, .int .i64 P, .slice a1 ts.length cap1, .slice a2 zs.length cap2] 46)) #[.int .i64 0, .int .i64 0, .slice none 0 0, .slice none 0 0] 46 (b := w.heap.size + 1) (by simp))
  have X0 := Lib.hid (((Ext.refl w).stepA (.cells #[.int .i64 L, .int .i64 P, .slice a1 ts.length cap1, .slice a2 zs.length cap2] 46)).stepA (.cells #[.int .i64 0, .int .i64 0, .slice none 0 0, .slice none 0 0] 46))
  obtain ⟨b0, b1, b2, b3⟩ := BX.out.four
  clear hr hl h
  go_enter Try.func86, Try.ntmps86
  go_wp2_with fail
  clear b0 b1 b2 b3
  refine (c_impl_ValidWindow L P _ _ ts _ _ zs _ HR.out HL.out (H.out.on X0.out)).mono ?_; rintro e w1 ⟨rfl, x1⟩
  have X : Ext w w1 := X0.out.trans x1
  obtain ⟨b0, b1, b2, b3⟩ := (BX.out.on x1).four
  obtain ⟨z0, z1, z2, z3⟩ := (BZ.out.on x1).four
  obtain ⟨f0, f1, f2, f3⟩ := (BZ.out.on x1).free
  clear x1
  go_wp2
  refine bodyPost_ret (v := .tuple #[.agg #[.int .i64 L, .int .i64 P, .slice a1 ts.length cap1, .slice a2 zs.length cap2], .bool true]) (by simp [results, Try.results86, go_sem, z0, z1, z2, z3]) rfl ⟨rfl, ?_⟩
  (repeat (first | assumption | exact Ext.refl _ | (with_reducible refine Ext.stepS ?_ (by first | exact Nat.le_refl _ | (simp; done) | (simp; omega)) _) | (with_reducible refine Ext.stepN ?_ _) | (with_reducible refine Ext.stepD ?_) | (with_reducible refine Ext.stepA ?_ _)))
set_option maxHeartbeats 2000000 in
theorem c_impl_windowIfValid_no (L P : Int) (a1 : Option Addr) (cap1 : Nat) (ts : List Int) (a2 : Option Addr) (cap2 : Nat) (zs : List Int) (w : World) (hr : winB L P ts zs = false) (hl : ts.length + zs.length ≤ 1048576) (h : Reads2 w a1 ts.length (ints ts) a2 zs.length (ints zs)) :
    Calls Try.prog 86 #[.agg #[.int .i64 L, .int .i64 P, .slice a1 ts.length cap1, .slice a2 zs.length cap2]] w fun e w' => e = .returned (.tuple #[.agg #[.int .i64 0, .int .i64 0, .slice none 0 0, .slice none 0 0], .bool false]) ∧ Ext w w' := by
  have HR := Lib.hid hr
  have HL := Lib.hid hl
  have H := Lib.hid h
  have BX := Lib.hid ((Box.alloc w #[.int .i64 L, .int .i64 P, .slice a1 ts.length cap1, .slice a2 zs.length cap2] 46).past (.cells #[.int .i64 0, .int .i64 0, .slice none 0 0, .slice none 0 0] 46))
  have BZ := Lib.hid (Box.alloc_at (w.alloc (.cells #[.int .i64 L, .int .i64 P, .slice a1 ts.length cap1, .slice a2 zs.length cap2] 46)) #[.int .i64 0, .int .i64 0, .slice none 0 0, .slice none 0 0] 46 (b := w.heap.size + 1) (by simp))
  have X0 := Lib.hid (((Ext.refl w).stepA (.cells #[.int .i64 L, .int .i64 P, .slice a1 ts.length cap1, .slice a2 zs.length cap2] 46)).stepA (.cells #[.int .i64 0, .int .i64 0, .slice none 0 0, .slice none 0 0] 46))
  obtain ⟨b0, b1, b2, b3⟩ := BX.out.four
  clear hr hl h
  go_enter Try.func86, Try.ntmps86
  go_wp2_with fail
  clear b0 b1 b2 b3
  refine (c_impl_ValidWindow L P _ _ ts _ _ zs _ HR.out HL.out (H.out.on X0.out)).mono ?_; rintro e w1 ⟨rfl, x1⟩
  have X : Ext w w1 := X0.out.trans x1
  obtain ⟨z0, z1, z2, z3⟩ := (BZ.out.on x1).four
  obtain ⟨f0, f1, f2, f3⟩ := (BZ.out.on x1).free
  clear x1
  go_wp2
  refine bodyPost_ret (v := .tuple #[.agg #[.int .i64 0, .int .i64 0, .slice none 0 0, .slice none 0 0], .bool false]) (by simp [results, Try.results86, go_sem, z0, z1, z2, z3]) rfl ⟨rfl, ?_⟩
  (repeat (first | assumption | exact Ext.refl _ | (with_reducible refine Ext.stepS ?_ (by first | exact Nat.le_refl _ | (simp; done) | (simp; omega)) _) | (with_reducible refine Ext.stepN ?_ _) | (with_reducible refine Ext.stepD ?_) | (with_reducible refine Ext.stepA ?_ _)))
end Go.Proofs.Ytplngjbllllanaa
