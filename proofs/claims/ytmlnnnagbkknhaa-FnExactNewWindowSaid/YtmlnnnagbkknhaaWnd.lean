/- NewWindow: both sides. -/
import Derived.Test.YtmlnnnagbkknhaaWna
namespace Go.Proofs.Ytmlnnnagbkknhaa
open Go.ChangeShapes Go.WideShapes Go.ChangeAt Go.RowKit
set_option linter.unusedVariables false
def newW (L P : Int) : NV × Bool := if inB 1 L 1000000 && inB 1 P 16 then (⟨L, P, [], []⟩, true) else (NV.no, false)
theorem newW_win (L P : Int) : winB L P [] [] = (inB 1 L 1000000 && inB 1 P 16) := by
  have h1 : timesB [] = true := allTo_yes fun i hi => by simp at hi
  have h2 : sizesB (P + 1).toNat [] = true := allTo_yes fun i hi => by simp at hi
  unfold winB winD
  rw [h1, h2]
  cases inB 1 L 1000000 <;> cases inB 1 P 16 <;> rfl
theorem newW_yes {L P : Int} (h : (inB 1 L 1000000 && inB 1 P 16) = true) : newW L P = (⟨L, P, [], []⟩, true) := if_pos h
theorem newW_no {L P : Int} (h : (inB 1 L 1000000 && inB 1 P 16) = false) : newW L P = (NV.no, false) := if_neg (by rw [h]; decide)
theorem newW_le {L P : Int} {c : NV} {b : Bool} (h : newW L P = (c, b)) : c.ts.length + c.zs.length ≤ 1048576 := by
  cases hi : (inB 1 L 1000000 && inB 1 P 16)
  · rw [newW_no hi] at h; simp only [Prod.mk.injEq] at h; obtain ⟨rfl, rfl⟩ := h; exact Nat.zero_le _
  · rw [newW_yes hi] at h; simp only [Prod.mk.injEq] at h; obtain ⟨rfl, rfl⟩ := h; exact Nat.zero_le _
set_option maxHeartbeats 2000000 in
theorem c_impl_windowIfValid_yes (L P : Int) (a1 : Option Addr) (cap1 : Nat) (ts : List Int) (a2 : Option Addr) (cap2 : Nat) (zs : List Int) (w : World) (hr : winB L P ts zs = true) (hl : ts.length + zs.length ≤ 1048576) (h : Reads2 w a1 ts.length (ints ts) a2 zs.length (ints zs)) :
    Calls Try.prog 52 #[.agg #[.int .i64 L, .int .i64 P, .slice a1 ts.length cap1, .slice a2 zs.length cap2]] w fun e w' => e = .returned (.tuple #[.agg #[.int .i64 L, .int .i64 P, .slice a1 ts.length cap1, .slice a2 zs.length cap2], .bool true]) ∧ Ext w w' := by
  have HR := Lib.hid hr
  have HL := Lib.hid hl
  have H := Lib.hid h
  have BX := Lib.hid ((Box.alloc w #[.int .i64 L, .int .i64 P, .slice a1 ts.length cap1, .slice a2 zs.length cap2] 27).past (.cells #[.int .i64 0, .int .i64 0, .slice none 0 0, .slice none 0 0] 27))
  have BZ := Lib.hid (Box.alloc_at (w.alloc (.cells #[.int .i64 L, .int .i64 P, .slice a1 ts.length cap1, .slice a2 zs.length cap2] 27)) #[.int .i64 0, .int .i64 0, .slice none 0 0, .slice none 0 0] 27 (b := w.heap.size + 1) (by simp))
  have X0 := Lib.hid (((Ext.refl w).stepA (.cells #[.int .i64 L, .int .i64 P, .slice a1 ts.length cap1, .slice a2 zs.length cap2] 27)).stepA (.cells #[.int .i64 0, .int .i64 0, .slice none 0 0, .slice none 0 0] 27))
  obtain ⟨b0, b1, b2, b3⟩ := BX.out.four
  clear hr hl h
  go_enter Try.func52, Try.ntmps52
  go_wp2_with fail
  clear b0 b1 b2 b3
  refine (c_impl_ValidWindow L P _ _ ts _ _ zs _ HR.out HL.out (H.out.on X0.out)).mono ?_; rintro e w1 ⟨rfl, x1⟩
  have X : Ext w w1 := X0.out.trans x1
  obtain ⟨b0, b1, b2, b3⟩ := (BX.out.on x1).four
  obtain ⟨z0, z1, z2, z3⟩ := (BZ.out.on x1).four
  obtain ⟨f0, f1, f2, f3⟩ := (BZ.out.on x1).free
  clear x1
  go_wp2
  refine bodyPost_ret (v := .tuple #[.agg #[.int .i64 L, .int .i64 P, .slice a1 ts.length cap1, .slice a2 zs.length cap2], .bool true]) (by simp [results, Try.results52, go_sem, z0, z1, z2, z3]) rfl ⟨rfl, ?_⟩
  (repeat (first | assumption | exact Ext.refl _ | (with_reducible refine Ext.stepS ?_ (by first | exact Nat.le_refl _ | (simp; done) | (simp; omega)) _) | (with_reducible refine Ext.stepN ?_ _) | (with_reducible refine Ext.stepD ?_) | (with_reducible refine Ext.stepA ?_ _)))
set_option maxHeartbeats 2000000 in
theorem c_impl_windowIfValid_no (L P : Int) (a1 : Option Addr) (cap1 : Nat) (ts : List Int) (a2 : Option Addr) (cap2 : Nat) (zs : List Int) (w : World) (hr : winB L P ts zs = false) (hl : ts.length + zs.length ≤ 1048576) (h : Reads2 w a1 ts.length (ints ts) a2 zs.length (ints zs)) :
    Calls Try.prog 52 #[.agg #[.int .i64 L, .int .i64 P, .slice a1 ts.length cap1, .slice a2 zs.length cap2]] w fun e w' => e = .returned (.tuple #[.agg #[.int .i64 0, .int .i64 0, .slice none 0 0, .slice none 0 0], .bool false]) ∧ Ext w w' := by
  have HR := Lib.hid hr
  have HL := Lib.hid hl
  have H := Lib.hid h
  have BX := Lib.hid ((Box.alloc w #[.int .i64 L, .int .i64 P, .slice a1 ts.length cap1, .slice a2 zs.length cap2] 27).past (.cells #[.int .i64 0, .int .i64 0, .slice none 0 0, .slice none 0 0] 27))
  have BZ := Lib.hid (Box.alloc_at (w.alloc (.cells #[.int .i64 L, .int .i64 P, .slice a1 ts.length cap1, .slice a2 zs.length cap2] 27)) #[.int .i64 0, .int .i64 0, .slice none 0 0, .slice none 0 0] 27 (b := w.heap.size + 1) (by simp))
  have X0 := Lib.hid (((Ext.refl w).stepA (.cells #[.int .i64 L, .int .i64 P, .slice a1 ts.length cap1, .slice a2 zs.length cap2] 27)).stepA (.cells #[.int .i64 0, .int .i64 0, .slice none 0 0, .slice none 0 0] 27))
  obtain ⟨b0, b1, b2, b3⟩ := BX.out.four
  clear hr hl h
  go_enter Try.func52, Try.ntmps52
  go_wp2_with fail
  clear b0 b1 b2 b3
  refine (c_impl_ValidWindow L P _ _ ts _ _ zs _ HR.out HL.out (H.out.on X0.out)).mono ?_; rintro e w1 ⟨rfl, x1⟩
  have X : Ext w w1 := X0.out.trans x1
  obtain ⟨z0, z1, z2, z3⟩ := (BZ.out.on x1).four
  obtain ⟨f0, f1, f2, f3⟩ := (BZ.out.on x1).free
  clear x1
  go_wp2
  refine bodyPost_ret (v := .tuple #[.agg #[.int .i64 0, .int .i64 0, .slice none 0 0, .slice none 0 0], .bool false]) (by simp [results, Try.results52, go_sem, z0, z1, z2, z3]) rfl ⟨rfl, ?_⟩
  (repeat (first | assumption | exact Ext.refl _ | (with_reducible refine Ext.stepS ?_ (by first | exact Nat.le_refl _ | (simp; done) | (simp; omega)) _) | (with_reducible refine Ext.stepN ?_ _) | (with_reducible refine Ext.stepD ?_) | (with_reducible refine Ext.stepA ?_ _)))
theorem reads2_nil (w : World) : Reads2 w none ([] : List Int).length (ints []) none ([] : List Int).length (ints []) := ⟨⟨rfl, .inl rfl⟩, ⟨rfl, .inl rfl⟩⟩
set_option maxHeartbeats 2000000 in
theorem c_impl_NewWindow (L P : Int) (w : World) {c : NV} {b : Bool} (hv : newW L P = (c, b)) :
    Calls Try.prog 21 #[.int .i64 L, .int .i64 P] w (RetKNB 2 2 c b w) := by
  have BZ := Lib.hid (Box.alloc w #[.int .i64 0, .int .i64 0, .slice none 0 0, .slice none 0 0] 27)
  have X0 := Lib.hid (Ext.alloc w (.cells #[.int .i64 0, .int .i64 0, .slice none 0 0, .slice none 0 0] 27))
  cases hi : (inB 1 L 1000000 && inB 1 P 16)
  · rw [newW_no hi] at hv
    simp only [Prod.mk.injEq] at hv
    obtain ⟨rfl, rfl⟩ := hv
    have HR := Lib.hid (show winB L P [] [] = false by rw [newW_win]; exact hi)
    clear hi
    go_enter Try.func21, Try.ntmps21
    go_wp2_with fail
    refine (c_impl_windowIfValid_no L P none 0 [] none 0 [] _ HR.out (by decide) (reads2_nil _)).mono ?_; rintro e w1 ⟨rfl, x1⟩
    have X : Ext w w1 := X0.out.trans x1
    obtain ⟨z0, z1, z2, z3⟩ := (BZ.out.on x1).four
    obtain ⟨f0, f1, f2, f3⟩ := (BZ.out.on x1).free
    clear x1
    go_wp2
    refine bodyPost_ret (v := .tuple #[.agg #[.int .i64 0, .int .i64 0, .slice none 0 0, .slice none 0 0], .bool false]) (by simp [results, Try.results21, go_sem, z0, z1, z2, z3]) rfl ⟨none, 0, none, 0, rfl, Own2.nil _ _ _ _ _, ?_⟩
    (repeat (first | assumption | exact Ext.refl _ | (with_reducible refine Ext.stepS ?_ (by first | exact Nat.le_refl _ | (simp; done) | (simp; omega)) _) | (with_reducible refine Ext.stepN ?_ _) | (with_reducible refine Ext.stepD ?_) | (with_reducible refine Ext.stepA ?_ _)))
  · rw [newW_yes hi] at hv
    simp only [Prod.mk.injEq] at hv
    obtain ⟨rfl, rfl⟩ := hv
    have HR := Lib.hid (show winB L P [] [] = true by rw [newW_win]; exact hi)
    clear hi
    go_enter Try.func21, Try.ntmps21
    go_wp2_with fail
    refine (c_impl_windowIfValid_yes L P none 0 [] none 0 [] _ HR.out (by decide) (reads2_nil _)).mono ?_; rintro e w1 ⟨rfl, x1⟩
    have X : Ext w w1 := X0.out.trans x1
    obtain ⟨z0, z1, z2, z3⟩ := (BZ.out.on x1).four
    obtain ⟨f0, f1, f2, f3⟩ := (BZ.out.on x1).free
    clear x1
    go_wp2
    refine bodyPost_ret (v := .tuple #[.agg #[.int .i64 L, .int .i64 P, .slice none 0 0, .slice none 0 0], .bool true]) (by simp [results, Try.results21, go_sem, z0, z1, z2, z3]) rfl ⟨none, 0, none, 0, rfl, Own2.nil _ _ _ _ _, ?_⟩
    (repeat (first | assumption | exact Ext.refl _ | (with_reducible refine Ext.stepS ?_ (by first | exact Nat.le_refl _ | (simp; done) | (simp; omega)) _) | (with_reducible refine Ext.stepN ?_ _) | (with_reducible refine Ext.stepD ?_) | (with_reducible refine Ext.stepA ?_ _)))
theorem own_empty (t : TypeId) (w : World) (lo : Nat) (h : lo ≤ w.heap.size) : Own t (w.alloc (.cells #[] t)) lo (w.heap.size + 1) (some ⟨w.heap.size, 0, none⟩) 0 0 (ints []) := by
  obtain ⟨a', c', he, ho⟩ := Own.of_row (e := 0) (made_at (base := lo) (size := 1) w #[] 0 rfl h (Nat.zero_le _) rfl)
  cases he
  exact ho.wide (Nat.le_refl _) (by simp)
set_option maxHeartbeats 2000000 in
theorem c_spec_NewWindow (L P : Int) (w : World) {c : NV} {b : Bool} (hv : newW L P = (c, b)) :
    Calls Try.prog 20 #[.int .i64 L, .int .i64 P] w (RetKNB 2 2 c b w) := by
  have BZ := Lib.hid (Box.alloc w #[.int .i64 0, .int .i64 0, .slice none 0 0, .slice none 0 0] 27)
  have X0 := Lib.hid (Ext.alloc w (.cells #[.int .i64 0, .int .i64 0, .slice none 0 0, .slice none 0 0] 27))
  obtain ⟨z0, z1, z2, z3⟩ := BZ.out.four
  obtain ⟨f0, f1, f2, f3⟩ := BZ.out.free
  cases h1 : inB 1 L 1000000
  · rw [newW_no (by rw [h1]; rfl)] at hv
    simp only [Prod.mk.injEq] at hv
    obtain ⟨rfl, rfl⟩ := hv
    have H1 := Lib.hid h1
    clear h1
    go_enter Try.func20, Try.ntmps20
    go_wp2_with fail
    refine (c_l00In_w L 1 1000000 _ H1.out).mono ?_; rintro e w' ⟨rfl, rfl⟩
    go_wp2
    refine bodyPost_ret (v := .tuple #[.agg #[.int .i64 0, .int .i64 0, .slice none 0 0, .slice none 0 0], .bool false]) (by simp [results, Try.results20, go_sem, z0, z1, z2, z3]) rfl ⟨none, 0, none, 0, rfl, Own2.nil _ _ _ _ _, ?_⟩
    (repeat (first | assumption | exact Ext.refl _ | (with_reducible refine Ext.stepS ?_ (by first | exact Nat.le_refl _ | (simp; done) | (simp; omega)) _) | (with_reducible refine Ext.stepN ?_ _) | (with_reducible refine Ext.stepD ?_) | (with_reducible refine Ext.stepA ?_ _)))
  cases h2 : inB 1 P 16
  · rw [newW_no (by rw [h1, h2]; rfl)] at hv
    simp only [Prod.mk.injEq] at hv
    obtain ⟨rfl, rfl⟩ := hv
    have H1 := Lib.hid h1
    have H2 := Lib.hid h2
    clear h1 h2
    go_enter Try.func20, Try.ntmps20
    go_wp2_with fail
    refine (c_l00In_w L 1 1000000 _ H1.out).mono ?_; rintro e w' ⟨rfl, rfl⟩
    go_wp2_with fail
    refine (c_l00In_w P 1 16 _ H2.out).mono ?_; rintro e w' ⟨rfl, rfl⟩
    go_wp2
    refine bodyPost_ret (v := .tuple #[.agg #[.int .i64 0, .int .i64 0, .slice none 0 0, .slice none 0 0], .bool false]) (by simp [results, Try.results20, go_sem, z0, z1, z2, z3]) rfl ⟨none, 0, none, 0, rfl, Own2.nil _ _ _ _ _, ?_⟩
    (repeat (first | assumption | exact Ext.refl _ | (with_reducible refine Ext.stepS ?_ (by first | exact Nat.le_refl _ | (simp; done) | (simp; omega)) _) | (with_reducible refine Ext.stepN ?_ _) | (with_reducible refine Ext.stepD ?_) | (with_reducible refine Ext.stepA ?_ _)))
  rw [newW_yes (by rw [h1, h2]; rfl)] at hv
  simp only [Prod.mk.injEq] at hv
  obtain ⟨rfl, rfl⟩ := hv
  have H1 := Lib.hid h1
  have H2 := Lib.hid h2
  clear h1 h2 z0 z1 z2 z3 f0 f1 f2 f3
  go_enter Try.func20, Try.ntmps20
  go_wp2_with fail
  refine (c_l00In_w L 1 1000000 _ H1.out).mono ?_; rintro e w' ⟨rfl, rfl⟩
  go_wp2_with fail
  refine (c_l00In_w P 1 16 _ H2.out).mono ?_; rintro e w' ⟨rfl, rfl⟩
  go_wp2
  refine bodyPost_ret (v := .tuple #[.agg #[.int .i64 L, .int .i64 P, .slice (some ⟨w.heap.size + 1, 0, none⟩) 0 0, .slice (some ⟨w.heap.size + 2, 0, none⟩) 0 0], .bool true]) (by simp [results, Try.results20, go_sem]) rfl ⟨some ⟨w.heap.size + 1, 0, none⟩, 0, some ⟨w.heap.size + 2, 0, none⟩, 0, rfl, ?_, ?_⟩
  · obtain ⟨W0, hW⟩ : ∃ W0, w.alloc (.cells #[.int .i64 L, .int .i64 P, .slice (some ⟨w.heap.size + 1, 0, none⟩) 0 0, .slice (some ⟨w.heap.size + 1 + 1, 0, none⟩) 0 0] 27) = W0 := ⟨_, rfl⟩
    have hs : W0.heap.size = w.heap.size + 1 := by rw [← hW]; simp
    have hs2 : (W0.alloc (.cells #[] 2)).heap.size = w.heap.size + 2 := by simp [hs]
    have hs3 : ((W0.alloc (.cells #[] 2)).alloc (.cells #[] 2)).heap.size = w.heap.size + 3 := by simp [hs]
    have o1 := own_empty 2 W0 w.heap.size (by omega)
    have o2 := own_empty 2 (W0.alloc (.cells #[] 2)) (w.heap.size + 2) (by omega)
    rw [hs] at o1
    rw [hs2] at o2
    rw [hW, hs3]
    exact ⟨(o1.on (Ext.alloc _ _)).wide (Nat.le_refl _) (by omega), o2.wide (by omega) (by omega), o1.apart_of o2 (.inl (by omega))⟩
  · (repeat (first | assumption | exact Ext.refl _ | (with_reducible refine Ext.stepS ?_ (by first | exact Nat.le_refl _ | (simp; done) | (simp; omega)) _) | (with_reducible refine Ext.stepN ?_ _) | (with_reducible refine Ext.stepD ?_) | (with_reducible refine Ext.stepA ?_ _)))
end Go.Proofs.Ytmlnnnagbkknhaa
