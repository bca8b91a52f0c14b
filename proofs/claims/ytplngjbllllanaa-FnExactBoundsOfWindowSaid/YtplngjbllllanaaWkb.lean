/- Windows: what the program keeps at a time (keptAt). -/
import Derived.Test.YtplngjbllllanaaWka
import Derived.Test.YtplngjbllllanaaWnd
namespace Go.Proofs.Ytplngjbllllanaa
open Go.ChangeShapes Go.WideShapes Go.ChangeAt Go.RowKit
set_option linter.unusedVariables false
/-- the shape of a slice: nil, or cells of a block -/
def SlS (a : Option Addr) (n cap : Nat) : Prop := n ≤ cap ∧ (a = none ∧ cap = 0 ∨ ∃ b off, a = some ⟨b, off, none⟩)
def RetKept (L P : Int) (tk zk : List Int) (w : World) (e : Ending) (w' : World) : Prop := ∃ a1 a2, e = .returned (.tuple #[.agg #[.int .i64 L, .int .i64 P, .slice a1 tk.length tk.length, .slice a2 zk.length zk.length], .bool true]) ∧ Reads2 w' a1 tk.length (ints tk) a2 zk.length (ints zk) ∧ Ext w w'
theorem reads_drop {w : World} {b off : Nat} {xs : List Int} {n d : Nat} (h : Reads w (some ⟨b, off, none⟩) n (ints xs)) (hd : d ≤ n) : Reads w (some ⟨b, off + d, none⟩) (xs.drop d).length (ints (xs.drop d)) := by
  have hz := h.int.1
  refine ⟨by rw [ints_length], ?_⟩
  rcases h.int.2 with h0 | ⟨b', off', he, hc⟩
  · exact .inl (by rw [List.length_drop]; omega)
  · simp only [Option.some.injEq, Addr.mk.injEq] at he
    obtain ⟨rfl, rfl, -⟩ := he
    refine .inr ⟨b, off + d, rfl, fun i hi => ?_⟩
    rw [List.length_drop] at hi
    have h1 := hc (d + i) (by omega)
    rw [show off + d + i = off + (d + i) by omega, h1, ints_get _ _ (by rw [List.length_drop]; exact hi)]
    have : getI (xs.drop d) i = getI xs (d + i) := getI_drop xs d i
    unfold getI at this
    rw [this]
set_option maxRecDepth 100000 in
set_option maxHeartbeats 2000000 in
theorem c_impl_keptAt_late (L P : Int) (a1 : Option Addr) (cap1 : Nat) (ts : List Int) (a2 : Option Addr) (cap2 : Nat) (zs : List Int) (t : Int) (w : World) (m : Nat) (hw : winB L P ts zs = true) (ht : inB 0 t 1000000 = true) (hm : ts.length = m + 1) (hzl : zs.length = m + 1) (hlt : t < getI ts m) (h : Reads2 w a1 (m + 1) (ints ts) a2 (m + 1) (ints zs)) :
    Calls Try.prog 80 #[.agg #[.int .i64 L, .int .i64 P, .slice a1 (m + 1) cap1, .slice a2 (m + 1) cap2], .int .i64 t] w fun e w' => e = .returned (.tuple #[.agg #[.int .i64 0, .int .i64 0, .slice none 0 0, .slice none 0 0], .bool false]) ∧ Ext w w' := by
  have H := Lib.hid h
  have HT := Lib.hid ht
  have hn128 : m + 1 ≤ 128 := by have := (win_ok hw).d.hn; omega
  have hm128 : (m : Int) + 1 ≤ 128 := by omega
  obtain ⟨x, hx⟩ : ∃ x, getI ts m = x := ⟨_, rfl⟩
  rw [hx] at hlt
  have CV := Lib.hid (show ∀ wx : World, Ext w wx → Calls Try.prog 134 #[.agg #[.int .i64 L, .int .i64 P, .slice a1 (m + 1) cap1, .slice a2 (m + 1) cap2]] wx fun e w' => e = .returned (.bool true) ∧ Ext wx w' from fun wx xx => by
    have := c_impl_ValidWindow L P a1 cap1 ts a2 cap2 zs wx (r := true) hw (by omega) (by rw [hm, hzl]; exact h.on xx)
    rw [hm, hzl] at this
    exact this)
  rcases h.r1.int.2 with hq | ⟨b, off, rfl, hc⟩
  · omega
  have HC := Lib.hid (show w.cell? ⟨b, off + m, none⟩ = some (.int .i64 x) by have := hc m (by omega); unfold getI at hx; rw [hx] at this; exact this)
  have BX := Lib.hid ((Box.alloc w #[.int .i64 L, .int .i64 P, .slice (some ⟨b, off, none⟩) (m + 1) cap1, .slice a2 (m + 1) cap2] 46).past (.cells #[.int .i64 0, .int .i64 0, .slice none 0 0, .slice none 0 0] 46))
  have BZ := Lib.hid (Box.alloc_at (w.alloc (.cells #[.int .i64 L, .int .i64 P, .slice (some ⟨b, off, none⟩) (m + 1) cap1, .slice a2 (m + 1) cap2] 46)) #[.int .i64 0, .int .i64 0, .slice none 0 0, .slice none 0 0] 46 (b := w.heap.size + 1) (by simp))
  have X0 := Lib.hid (((Ext.refl w).stepA (.cells #[.int .i64 L, .int .i64 P, .slice (some ⟨b, off, none⟩) (m + 1) cap1, .slice a2 (m + 1) cap2] 46)).stepA (.cells #[.int .i64 0, .int .i64 0, .slice none 0 0, .slice none 0 0] 46))
  obtain ⟨b0, b1, b2, b3⟩ := BX.out.four
  clear h hw ht hx hc hm hzl
  go_enter Try.func80, Try.ntmps80
  go_wp2_with fail
  clear b0 b1 b2 b3
  refine (CV.out _ X0.out).mono ?_; rintro e w1 ⟨rfl, x1⟩
  have X : Ext w w1 := X0.out.trans x1
  have c1 := X.some HC.out
  obtain ⟨b0, b1, b2, b3⟩ := (BX.out.on x1).four
  obtain ⟨z0, z1, z2, z3⟩ := (BZ.out.on x1).four
  obtain ⟨f0, f1, f2, f3⟩ := (BZ.out.on x1).free
  clear x1
  go_wp2_with fail
  refine (c_impl_isTime t _ HT.out).mono ?_; rintro e w1' ⟨rfl, rfl⟩
  go_wp2
  refine bodyPost_ret (v := .tuple #[.agg #[.int .i64 0, .int .i64 0, .slice none 0 0, .slice none 0 0], .bool false]) (by simp [results, Try.results80, go_sem, z0, z1, z2, z3]) rfl ⟨rfl, ?_⟩
  (repeat (first | assumption | exact Ext.refl _ | (with_reducible refine Ext.stepS ?_ (by first | exact Nat.le_refl _ | (simp; done) | (simp; omega)) _) | (with_reducible refine Ext.stepN ?_ _) | (with_reducible refine Ext.stepD ?_) | (with_reducible refine Ext.stepA ?_ _)))
set_option maxRecDepth 100000 in
set_option maxHeartbeats 2000000 in
theorem c_impl_keptAt_no (L P : Int) (a1 : Option Addr) (cap1 : Nat) (ts : List Int) (a2 : Option Addr) (cap2 : Nat) (zs : List Int) (t : Int) (w : World) (hr : lateB L P ts zs t = false) (hl : ts.length + zs.length ≤ 1048576) (h : Reads2 w a1 ts.length (ints ts) a2 zs.length (ints zs)) :
    Calls Try.prog 80 #[.agg #[.int .i64 L, .int .i64 P, .slice a1 ts.length cap1, .slice a2 zs.length cap2], .int .i64 t] w fun e w' => e = .returned (.tuple #[.agg #[.int .i64 0, .int .i64 0, .slice none 0 0, .slice none 0 0], .bool false]) ∧ Ext w w' := by
  have H := Lib.hid h
  have hl1 : (ts.length : Int) ≤ 1048576 := by omega
  have BX := Lib.hid ((Box.alloc w #[.int .i64 L, .int .i64 P, .slice a1 ts.length cap1, .slice a2 zs.length cap2] 46).past (.cells #[.int .i64 0, .int .i64 0, .slice none 0 0, .slice none 0 0] 46))
  have BZ := Lib.hid (Box.alloc_at (w.alloc (.cells #[.int .i64 L, .int .i64 P, .slice a1 ts.length cap1, .slice a2 zs.length cap2] 46)) #[.int .i64 0, .int .i64 0, .slice none 0 0, .slice none 0 0] 46 (b := w.heap.size + 1) (by simp))
  have X0 := Lib.hid (((Ext.refl w).stepA (.cells #[.int .i64 L, .int .i64 P, .slice a1 ts.length cap1, .slice a2 zs.length cap2] 46)).stepA (.cells #[.int .i64 0, .int .i64 0, .slice none 0 0, .slice none 0 0] 46))
  obtain ⟨b0, b1, b2, b3⟩ := BX.out.four
  clear h
  cases hw : winB L P ts zs
  · have HW := Lib.hid hw
    clear hr hw
    go_enter Try.func80, Try.ntmps80
    go_wp2_with fail
    clear b0 b1 b2 b3
    refine (c_impl_ValidWindow L P _ _ ts _ _ zs _ HW.out hl (H.out.on X0.out)).mono ?_; rintro e w1 ⟨rfl, x1⟩
    have X : Ext w w1 := X0.out.trans x1
    obtain ⟨z0, z1, z2, z3⟩ := (BZ.out.on x1).four
    obtain ⟨f0, f1, f2, f3⟩ := (BZ.out.on x1).free
    clear x1
    go_wp2
    refine bodyPost_ret (v := .tuple #[.agg #[.int .i64 0, .int .i64 0, .slice none 0 0, .slice none 0 0], .bool false]) (by simp [results, Try.results80, go_sem, z0, z1, z2, z3]) rfl ⟨rfl, ?_⟩
    (repeat (first | assumption | exact Ext.refl _ | (with_reducible refine Ext.stepS ?_ (by first | exact Nat.le_refl _ | (simp; done) | (simp; omega)) _) | (with_reducible refine Ext.stepN ?_ _) | (with_reducible refine Ext.stepD ?_) | (with_reducible refine Ext.stepA ?_ _)))
  have HW := Lib.hid hw
  cases ht : inB 0 t 1000000
  · have HT := Lib.hid ht
    clear hr hw ht
    go_enter Try.func80, Try.ntmps80
    go_wp2_with fail
    clear b0 b1 b2 b3
    refine (c_impl_ValidWindow L P _ _ ts _ _ zs _ HW.out hl (H.out.on X0.out)).mono ?_; rintro e w1 ⟨rfl, x1⟩
    have X : Ext w w1 := X0.out.trans x1
    obtain ⟨z0, z1, z2, z3⟩ := (BZ.out.on x1).four
    obtain ⟨f0, f1, f2, f3⟩ := (BZ.out.on x1).free
    clear x1
    go_wp2_with (go_at_call 135; refine (c_impl_isTime t _ HT.out).mono ?_; rintro e w' ⟨rfl, rfl⟩)
    refine bodyPost_ret (v := .tuple #[.agg #[.int .i64 0, .int .i64 0, .slice none 0 0, .slice none 0 0], .bool false]) (by simp [results, Try.results80, go_sem, z0, z1, z2, z3]) rfl ⟨rfl, ?_⟩
    (repeat (first | assumption | exact Ext.refl _ | (with_reducible refine Ext.stepS ?_ (by first | exact Nat.le_refl _ | (simp; done) | (simp; omega)) _) | (with_reducible refine Ext.stepN ?_ _) | (with_reducible refine Ext.stepD ?_) | (with_reducible refine Ext.stepA ?_ _)))
  have HT := Lib.hid ht
  have hnl : notLate ts t = false := by
    unfold lateB at hr; rw [hw, ht] at hr; exact hr
  have h0 : ¬ ts.length = 0 := by
    intro h0; unfold notLate at hnl; rw [decide_eq_true h0] at hnl; cases hnl
  obtain ⟨m, hm⟩ : ∃ m, ts.length = m + 1 := ⟨ts.length - 1, by omega⟩
  have hzl : zs.length = m + 1 := by have := (win_ok hw).d.hk; omega
  have hlt : t < getI ts m := by
    unfold notLate at hnl
    rw [decide_eq_false h0, show ts.length - 1 = m by omega] at hnl
    have : ¬ getI ts m ≤ t := by intro hq; rw [decide_eq_true hq] at hnl; cases hnl
    omega
  have HH := H.out
  rw [hm, hzl] at HH ⊢
  exact c_impl_keptAt_late L P a1 cap1 ts a2 cap2 zs t w m hw ht hm hzl hlt HH
set_option maxRecDepth 100000 in
set_option maxHeartbeats 4000000 in
theorem c_impl_keptAt_some (L P : Int) (g1 o1 cap1 : Nat) (ts : List Int) (g2 o2 cap2 : Nat) (zs : List Int) (t : Int) (w : World) (m d : Nat) (hr : LateOk L P ts zs t) (hm : ts.length = m + 1) (hd : OutOk (t - L) ts d) (h : Reads2 w (some ⟨g1, o1, none⟩) (m + 1) (ints ts) (some ⟨g2, o2, none⟩) (m + 1) (ints zs)) (k1 : m + 1 ≤ cap1) (k2 : m + 1 ≤ cap2) :
    Calls Try.prog 80 #[.agg #[.int .i64 L, .int .i64 P, .slice (some ⟨g1, o1, none⟩) (m + 1) cap1, .slice (some ⟨g2, o2, none⟩) (m + 1) cap2], .int .i64 t] w (RetKept L P (ts.drop d) (zs.drop d) w) := by
  have H := Lib.hid h
  have HRR := Lib.hid hr
  have HD := Lib.hid hd
  have hzl : zs.length = m + 1 := by have := hr.ok.d.hk; omega
  have hn128 : m + 1 ≤ 128 := by have := hr.ok.d.hn; omega
  have hm128 : (m : Int) + 1 ≤ 128 := by omega
  have hdle : d ≤ m + 1 := by have := hd.le; omega
  have hdle' : (d : Int) ≤ (m : Int) + 1 := by omega
  have hk1 : (m : Int) + 1 ≤ (cap1 : Int) := by omega
  have hk2 : (m : Int) + 1 ≤ (cap2 : Int) := by omega
  have HT := Lib.hid (inB_isW.2 ⟨hr.t1, hr.t2⟩)
  have HM := Lib.hid hm
  have HZL := Lib.hid hzl
  have hxt : getI ts m ≤ t := hr.l m (by omega)
  obtain ⟨x, hx⟩ : ∃ x, getI ts m = x := ⟨_, rfl⟩
  rw [hx] at hxt
  have HC := Lib.hid (show w.cell? ⟨g1, o1 + m, none⟩ = some (.int .i64 x) by
    rcases h.r1.int.2 with hq | ⟨b', off', he, hc⟩
    · omega
    · simp only [Option.some.injEq, Addr.mk.injEq] at he
      obtain ⟨rfl, rfl, -⟩ := he
      have := hc m (by omega); unfold getI at hx; rw [hx] at this; exact this)
  have CV := Lib.hid (show ∀ wx : World, Ext w wx → Calls Try.prog 134 #[.agg #[.int .i64 L, .int .i64 P, .slice (some ⟨g1, o1, none⟩) (m + 1) cap1, .slice (some ⟨g2, o2, none⟩) (m + 1) cap2]] wx fun e w' => e = .returned (.bool true) ∧ Ext wx w' from fun wx xx => by
    have := c_impl_ValidWindow L P (some ⟨g1, o1, none⟩) cap1 ts (some ⟨g2, o2, none⟩) cap2 zs wx (r := true) hr.w (by omega) (by rw [hm, hzl]; exact h.on xx)
    rw [hm, hzl] at this
    exact this)
  obtain ⟨r, hrr⟩ : ∃ r : Int, (if d < m + 1 then (d : Int) else -1) = r := ⟨_, rfl⟩
  have CF := Lib.hid (show ∀ wx : World, Ext w wx → Calls Try.prog 136 #[.slice (some ⟨g1, o1, none⟩) (m + 1) cap1, .func (.func 137) #[.agg #[.int .i64 t, .int .i64 L]] #[]] wx fun e w' => e = .returned (.int .i64 r) ∧ Ext wx w' from fun wx xx =>
    c_IndexFunc_has t L _ (m + 1) cap1 ts wx hrr hd hr.l (by omega) (h.on xx).r1 hr.t1 hr.t2 hr.ok.d.l1 hr.ok.d.l2)
  have HRES := Lib.hid (show ∀ wx : World, Ext w wx → RetKept L P (ts.drop d) (zs.drop d) w (.returned (.tuple #[.agg #[.int .i64 L, .int .i64 P, .slice (some ⟨g1, o1 + d, none⟩) (m + 1 - d) (m + 1 - d), .slice (some ⟨g2, o2 + d, none⟩) (m + 1 - d) (m + 1 - d)], .bool true])) wx from fun wx xx =>
    ⟨some ⟨g1, o1 + d, none⟩, some ⟨g2, o2 + d, none⟩, by rw [List.length_drop, List.length_drop, hm, hzl], ⟨reads_drop (h.on xx).r1 hdle, reads_drop (h.on xx).r2 hdle⟩, xx⟩)
  have BX := Lib.hid ((Box.alloc w #[.int .i64 L, .int .i64 P, .slice (some ⟨g1, o1, none⟩) (m + 1) cap1, .slice (some ⟨g2, o2, none⟩) (m + 1) cap2] 46).past (.cells #[.int .i64 0, .int .i64 0, .slice none 0 0, .slice none 0 0] 46))
  have BZ := Lib.hid (Box.alloc_at (w.alloc (.cells #[.int .i64 L, .int .i64 P, .slice (some ⟨g1, o1, none⟩) (m + 1) cap1, .slice (some ⟨g2, o2, none⟩) (m + 1) cap2] 46)) #[.int .i64 0, .int .i64 0, .slice none 0 0, .slice none 0 0] 46 (b := w.heap.size + 1) (by simp))
  have X0 := Lib.hid (((Ext.refl w).stepA (.cells #[.int .i64 L, .int .i64 P, .slice (some ⟨g1, o1, none⟩) (m + 1) cap1, .slice (some ⟨g2, o2, none⟩) (m + 1) cap2] 46)).stepA (.cells #[.int .i64 0, .int .i64 0, .slice none 0 0, .slice none 0 0] 46))
  obtain ⟨b0, b1, b2, b3⟩ := BX.out.four
  have q1 : w.heap.size ≠ w.heap.size + 1 := by omega
  have q2 : w.heap.size + 1 ≠ w.heap.size := by omega
  clear h hr hd hx hm hzl
  by_cases hdm : d < m + 1
  · have hrd : r = (d : Int) := by rw [← hrr, if_pos hdm]
    have hdm' : (d : Int) < (m : Int) + 1 := by omega
    subst hrd
    clear hrr
    go_enter Try.func80, Try.ntmps80
    go_wp2_with fail
    clear b0 b1 b2 b3
    refine (CV.out _ X0.out).mono ?_; rintro e w1 ⟨rfl, x1⟩
    have X1 := Lib.hid (X0.out.trans x1)
    have c1 := X1.out.some HC.out
    have BX1 := Lib.hid (BX.out.on x1)
    have BZ1 := Lib.hid (BZ.out.on x1)
    obtain ⟨b0, b1, b2, b3⟩ := BX1.out.four
    clear x1
    go_wp2_with fail
    refine (c_impl_isTime t _ HT.out).mono ?_; rintro e w1' ⟨rfl, rfl⟩
    go_wp2_with fail
    clear b0 b1 b2 b3 c1
    refine (CF.out _ X1.out).mono ?_; rintro e w3 ⟨rfl, x3⟩
    have X3 := Lib.hid (X1.out.trans x3)
    have BX3 := Lib.hid (BX1.out.on x3)
    have BZ3 := Lib.hid (BZ1.out.on x3)
    obtain ⟨b0, b1, b2, b3⟩ := BX3.out.four
    obtain ⟨z0, z1, z2, z3⟩ := BZ3.out.four
    obtain ⟨f0, f1, f2, f3⟩ := BZ3.out.free
    clear x3
    go_upto_region 7 with fail
    go_region_held3 (fun w' => w'.cell? ⟨w.heap.size, 0, none⟩ = some (.int .i64 L) ∧ w'.cell? ⟨w.heap.size, 1, none⟩ = some (.int .i64 P) ∧ w'.cell? ⟨w.heap.size, 2, none⟩ = some (.slice (some ⟨g1, o1, none⟩) (m + 1) cap1) ∧ w'.cell? ⟨w.heap.size, 3, none⟩ = some (.slice (some ⟨g2, o2, none⟩) (m + 1) cap2)) (go_keep) (fail)
    all_goals
      go_wp2
      refine bodyPost_ret (v := .tuple #[.agg #[.int .i64 L, .int .i64 P, .slice (some ⟨g1, o1 + d, none⟩) (m + 1 - d) (m + 1 - d), .slice (some ⟨g2, o2 + d, none⟩) (m + 1 - d) (m + 1 - d)], .bool true]) (by simp [results, Try.results80, go_sem, z0, z1, z2, z3]) rfl (HRES.out _ ?_)
      (repeat (first | assumption | exact Ext.refl _ | (with_reducible refine Ext.stepS ?_ (by first | exact Nat.le_refl _ | (simp; done) | (simp; omega)) _) | (with_reducible refine Ext.stepN ?_ _) | (with_reducible refine Ext.stepD ?_) | (with_reducible refine Ext.stepA ?_ _)))
  · have hrd : r = -1 := by rw [← hrr, if_neg hdm]
    obtain rfl : d = m + 1 := by omega
    subst hrd
    have HRES2 := Lib.hid (show ∀ wx : World, Ext w wx → RetKept L P (ts.drop (m + 1)) (zs.drop (m + 1)) w (.returned (.tuple #[.agg #[.int .i64 L, .int .i64 P, .slice (some ⟨g1, o1, none⟩) 0 0, .slice (some ⟨g2, o2, none⟩) 0 0], .bool true])) wx from fun wx xx => by
      have e1 : ts.drop (m + 1) = [] := List.drop_eq_nil_of_le (by have := HM.out; omega)
      have e2 : zs.drop (m + 1) = [] := List.drop_eq_nil_of_le (by have := HZL.out; omega)
      rw [e1, e2]
      exact ⟨some ⟨g1, o1, none⟩, some ⟨g2, o2, none⟩, rfl, ⟨⟨rfl, .inl rfl⟩, ⟨rfl, .inl rfl⟩⟩, xx⟩)
    have h00 : (0 : Int) ≤ (m : Int) + 1 := by omega
    clear hrr HRES
    go_enter Try.func80, Try.ntmps80
    go_wp2_with fail
    clear b0 b1 b2 b3
    refine (CV.out _ X0.out).mono ?_; rintro e w1 ⟨rfl, x1⟩
    have X1 := Lib.hid (X0.out.trans x1)
    have c1 := X1.out.some HC.out
    have BX1 := Lib.hid (BX.out.on x1)
    have BZ1 := Lib.hid (BZ.out.on x1)
    obtain ⟨b0, b1, b2, b3⟩ := BX1.out.four
    clear x1
    go_wp2_with fail
    refine (c_impl_isTime t _ HT.out).mono ?_; rintro e w1' ⟨rfl, rfl⟩
    go_wp2_with fail
    clear b0 b1 b2 b3 c1
    refine (CF.out _ X1.out).mono ?_; rintro e w3 ⟨rfl, x3⟩
    have X3 := Lib.hid (X1.out.trans x3)
    have BX3 := Lib.hid (BX1.out.on x3)
    have BZ3 := Lib.hid (BZ1.out.on x3)
    obtain ⟨b0, b1, b2, b3⟩ := BX3.out.four
    obtain ⟨z0, z1, z2, z3⟩ := BZ3.out.four
    obtain ⟨f0, f1, f2, f3⟩ := BZ3.out.free
    clear x3
    go_upto_region 7 with fail
    go_region_held3 (fun w' => w'.cell? ⟨w.heap.size, 0, none⟩ = some (.int .i64 L) ∧ w'.cell? ⟨w.heap.size, 1, none⟩ = some (.int .i64 P) ∧ w'.cell? ⟨w.heap.size, 2, none⟩ = some (.slice (some ⟨g1, o1, none⟩) (m + 1) cap1) ∧ w'.cell? ⟨w.heap.size, 3, none⟩ = some (.slice (some ⟨g2, o2, none⟩) (m + 1) cap2)) (go_keep) (fail)
    all_goals
      go_wp2
      refine bodyPost_ret (v := .tuple #[.agg #[.int .i64 L, .int .i64 P, .slice (some ⟨g1, o1, none⟩) 0 0, .slice (some ⟨g2, o2, none⟩) 0 0], .bool true]) (by simp [results, Try.results80, go_sem, z0, z1, z2, z3]) rfl (HRES2.out _ ?_)
      (repeat (first | assumption | exact Ext.refl _ | (with_reducible refine Ext.stepS ?_ (by first | exact Nat.le_refl _ | (simp; done) | (simp; omega)) _) | (with_reducible refine Ext.stepN ?_ _) | (with_reducible refine Ext.stepD ?_) | (with_reducible refine Ext.stepA ?_ _)))
set_option maxRecDepth 100000 in
set_option maxHeartbeats 4000000 in
theorem c_impl_keptAt_nil_nn (L P : Int) (t : Int) (w : World) (hr : LateOk L P [] [] t) :
    Calls Try.prog 80 #[.agg #[.int .i64 L, .int .i64 P, .slice none 0 0, .slice none 0 0], .int .i64 t] w (RetKept L P [] [] w) := by
  have HT := Lib.hid (inB_isW.2 ⟨hr.t1, hr.t2⟩)
  have rd2 : ∀ wx : World, Reads2 wx none ([] : List Int).length (ints []) none ([] : List Int).length (ints []) := fun wx => ⟨⟨rfl, .inl rfl⟩, ⟨rfl, .inl rfl⟩⟩
  have CV := Lib.hid (show ∀ wx : World, Calls Try.prog 134 #[.agg #[.int .i64 L, .int .i64 P, .slice none 0 0, .slice none 0 0]] wx fun e w' => e = .returned (.bool true) ∧ Ext wx w' from fun wx =>
    c_impl_ValidWindow L P none 0 [] none 0 [] wx (r := true) hr.w (by decide) (rd2 wx))
  have CF := Lib.hid (show ∀ wx : World, Calls Try.prog 136 #[.slice none 0 0, .func (.func 137) #[.agg #[.int .i64 t, .int .i64 L]] #[]] wx fun e w' => e = .returned (.int .i64 (-1)) ∧ Ext wx w' from fun wx =>
    c_IndexFunc_has t L none 0 0 [] wx (d := 0) (by decide) ⟨Nat.le_refl _, fun i hi => absurd hi (Nat.not_lt_zero _), fun i _ hi => absurd hi (Nat.not_lt_zero _)⟩ (fun i hi => absurd hi (Nat.not_lt_zero _)) (by decide) (rd2 wx).r1 hr.t1 hr.t2 hr.ok.d.l1 hr.ok.d.l2)
  have HRES := Lib.hid (show ∀ wx : World, Ext w wx → RetKept L P [] [] w (.returned (.tuple #[.agg #[.int .i64 L, .int .i64 P, .slice none 0 0, .slice none 0 0], .bool true])) wx from fun wx xx => ⟨none, none, rfl, rd2 wx, xx⟩)
  have BX := Lib.hid ((Box.alloc w #[.int .i64 L, .int .i64 P, .slice none 0 0, .slice none 0 0] 46).past (.cells #[.int .i64 0, .int .i64 0, .slice none 0 0, .slice none 0 0] 46))
  have BZ := Lib.hid (Box.alloc_at (w.alloc (.cells #[.int .i64 L, .int .i64 P, .slice none 0 0, .slice none 0 0] 46)) #[.int .i64 0, .int .i64 0, .slice none 0 0, .slice none 0 0] 46 (b := w.heap.size + 1) (by simp))
  have X0 := Lib.hid (((Ext.refl w).stepA (.cells #[.int .i64 L, .int .i64 P, .slice none 0 0, .slice none 0 0] 46)).stepA (.cells #[.int .i64 0, .int .i64 0, .slice none 0 0, .slice none 0 0] 46))
  obtain ⟨b0, b1, b2, b3⟩ := BX.out.four
  have q1 : w.heap.size ≠ w.heap.size + 1 := by omega
  have q2 : w.heap.size + 1 ≠ w.heap.size := by omega
  clear hr rd2
  go_enter Try.func80, Try.ntmps80
  go_wp2_with fail
  clear b0 b1 b2 b3
  refine (CV.out _).mono ?_; rintro e w1 ⟨rfl, x1⟩
  have X1 := Lib.hid (X0.out.trans x1)
  have BX1 := Lib.hid (BX.out.on x1)
  have BZ1 := Lib.hid (BZ.out.on x1)
  obtain ⟨b0, b1, b2, b3⟩ := BX1.out.four
  clear x1
  go_wp2_with fail
  refine (c_impl_isTime t _ HT.out).mono ?_; rintro e w1' ⟨rfl, rfl⟩
  go_wp2_with fail
  clear b0 b1 b2 b3
  refine (CF.out _).mono ?_; rintro e w3 ⟨rfl, x3⟩
  have X3 := Lib.hid (X1.out.trans x3)
  have BX3 := Lib.hid (BX1.out.on x3)
  have BZ3 := Lib.hid (BZ1.out.on x3)
  obtain ⟨b0, b1, b2, b3⟩ := BX3.out.four
  obtain ⟨z0, z1, z2, z3⟩ := BZ3.out.four
  obtain ⟨f0, f1, f2, f3⟩ := BZ3.out.free
  clear x3
  go_upto_region 7 with fail
  go_region_held3 (fun w' => w'.cell? ⟨w.heap.size, 0, none⟩ = some (.int .i64 L) ∧ w'.cell? ⟨w.heap.size, 1, none⟩ = some (.int .i64 P) ∧ w'.cell? ⟨w.heap.size, 2, none⟩ = some (.slice none 0 0) ∧ w'.cell? ⟨w.heap.size, 3, none⟩ = some (.slice none 0 0)) (go_keep) (fail)
  all_goals
    go_wp2
    refine bodyPost_ret (v := .tuple #[.agg #[.int .i64 L, .int .i64 P, .slice none 0 0, .slice none 0 0], .bool true]) (by simp [results, Try.results80, go_sem, z0, z1, z2, z3]) rfl (HRES.out _ ?_)
    (repeat (first | assumption | exact Ext.refl _ | (with_reducible refine Ext.stepS ?_ (by first | exact Nat.le_refl _ | (simp; done) | (simp; omega)) _) | (with_reducible refine Ext.stepN ?_ _) | (with_reducible refine Ext.stepD ?_) | (with_reducible refine Ext.stepA ?_ _)))
set_option maxRecDepth 100000 in
set_option maxHeartbeats 4000000 in
theorem c_impl_keptAt_nil_ns (L P : Int) (g2 o2 cap2 : Nat) (t : Int) (w : World) (hr : LateOk L P [] [] t) :
    Calls Try.prog 80 #[.agg #[.int .i64 L, .int .i64 P, .slice none 0 0, .slice (some ⟨g2, o2, none⟩) 0 cap2], .int .i64 t] w (RetKept L P [] [] w) := by
  have HT := Lib.hid (inB_isW.2 ⟨hr.t1, hr.t2⟩)
  have rd2 : ∀ wx : World, Reads2 wx none ([] : List Int).length (ints []) (some ⟨g2, o2, none⟩) ([] : List Int).length (ints []) := fun wx => ⟨⟨rfl, .inl rfl⟩, ⟨rfl, .inl rfl⟩⟩
  have CV := Lib.hid (show ∀ wx : World, Calls Try.prog 134 #[.agg #[.int .i64 L, .int .i64 P, .slice none 0 0, .slice (some ⟨g2, o2, none⟩) 0 cap2]] wx fun e w' => e = .returned (.bool true) ∧ Ext wx w' from fun wx =>
    c_impl_ValidWindow L P none 0 [] (some ⟨g2, o2, none⟩) cap2 [] wx (r := true) hr.w (by decide) (rd2 wx))
  have CF := Lib.hid (show ∀ wx : World, Calls Try.prog 136 #[.slice none 0 0, .func (.func 137) #[.agg #[.int .i64 t, .int .i64 L]] #[]] wx fun e w' => e = .returned (.int .i64 (-1)) ∧ Ext wx w' from fun wx =>
    c_IndexFunc_has t L none 0 0 [] wx (d := 0) (by decide) ⟨Nat.le_refl _, fun i hi => absurd hi (Nat.not_lt_zero _), fun i _ hi => absurd hi (Nat.not_lt_zero _)⟩ (fun i hi => absurd hi (Nat.not_lt_zero _)) (by decide) (rd2 wx).r1 hr.t1 hr.t2 hr.ok.d.l1 hr.ok.d.l2)
  have HRES := Lib.hid (show ∀ wx : World, Ext w wx → RetKept L P [] [] w (.returned (.tuple #[.agg #[.int .i64 L, .int .i64 P, .slice none 0 0, .slice (some ⟨g2, o2, none⟩) 0 0], .bool true])) wx from fun wx xx => ⟨none, (some ⟨g2, o2, none⟩), rfl, rd2 wx, xx⟩)
  have BX := Lib.hid ((Box.alloc w #[.int .i64 L, .int .i64 P, .slice none 0 0, .slice (some ⟨g2, o2, none⟩) 0 cap2] 46).past (.cells #[.int .i64 0, .int .i64 0, .slice none 0 0, .slice none 0 0] 46))
  have BZ := Lib.hid (Box.alloc_at (w.alloc (.cells #[.int .i64 L, .int .i64 P, .slice none 0 0, .slice (some ⟨g2, o2, none⟩) 0 cap2] 46)) #[.int .i64 0, .int .i64 0, .slice none 0 0, .slice none 0 0] 46 (b := w.heap.size + 1) (by simp))
  have X0 := Lib.hid (((Ext.refl w).stepA (.cells #[.int .i64 L, .int .i64 P, .slice none 0 0, .slice (some ⟨g2, o2, none⟩) 0 cap2] 46)).stepA (.cells #[.int .i64 0, .int .i64 0, .slice none 0 0, .slice none 0 0] 46))
  obtain ⟨b0, b1, b2, b3⟩ := BX.out.four
  have q1 : w.heap.size ≠ w.heap.size + 1 := by omega
  have q2 : w.heap.size + 1 ≠ w.heap.size := by omega
  clear hr rd2
  go_enter Try.func80, Try.ntmps80
  go_wp2_with fail
  clear b0 b1 b2 b3
  refine (CV.out _).mono ?_; rintro e w1 ⟨rfl, x1⟩
  have X1 := Lib.hid (X0.out.trans x1)
  have BX1 := Lib.hid (BX.out.on x1)
  have BZ1 := Lib.hid (BZ.out.on x1)
  obtain ⟨b0, b1, b2, b3⟩ := BX1.out.four
  clear x1
  go_wp2_with fail
  refine (c_impl_isTime t _ HT.out).mono ?_; rintro e w1' ⟨rfl, rfl⟩
  go_wp2_with fail
  clear b0 b1 b2 b3
  refine (CF.out _).mono ?_; rintro e w3 ⟨rfl, x3⟩
  have X3 := Lib.hid (X1.out.trans x3)
  have BX3 := Lib.hid (BX1.out.on x3)
  have BZ3 := Lib.hid (BZ1.out.on x3)
  obtain ⟨b0, b1, b2, b3⟩ := BX3.out.four
  obtain ⟨z0, z1, z2, z3⟩ := BZ3.out.four
  obtain ⟨f0, f1, f2, f3⟩ := BZ3.out.free
  clear x3
  go_upto_region 7 with fail
  go_region_held3 (fun w' => w'.cell? ⟨w.heap.size, 0, none⟩ = some (.int .i64 L) ∧ w'.cell? ⟨w.heap.size, 1, none⟩ = some (.int .i64 P) ∧ w'.cell? ⟨w.heap.size, 2, none⟩ = some (.slice none 0 0) ∧ w'.cell? ⟨w.heap.size, 3, none⟩ = some (.slice (some ⟨g2, o2, none⟩) 0 cap2)) (go_keep) (fail)
  all_goals
    go_wp2
    refine bodyPost_ret (v := .tuple #[.agg #[.int .i64 L, .int .i64 P, .slice none 0 0, .slice (some ⟨g2, o2, none⟩) 0 0], .bool true]) (by simp [results, Try.results80, go_sem, z0, z1, z2, z3]) rfl (HRES.out _ ?_)
    (repeat (first | assumption | exact Ext.refl _ | (with_reducible refine Ext.stepS ?_ (by first | exact Nat.le_refl _ | (simp; done) | (simp; omega)) _) | (with_reducible refine Ext.stepN ?_ _) | (with_reducible refine Ext.stepD ?_) | (with_reducible refine Ext.stepA ?_ _)))
set_option maxRecDepth 100000 in
set_option maxHeartbeats 4000000 in
theorem c_impl_keptAt_nil_sn (L P : Int) (g1 o1 cap1 : Nat) (t : Int) (w : World) (hr : LateOk L P [] [] t) :
    Calls Try.prog 80 #[.agg #[.int .i64 L, .int .i64 P, .slice (some ⟨g1, o1, none⟩) 0 cap1, .slice none 0 0], .int .i64 t] w (RetKept L P [] [] w) := by
  have HT := Lib.hid (inB_isW.2 ⟨hr.t1, hr.t2⟩)
  have rd2 : ∀ wx : World, Reads2 wx (some ⟨g1, o1, none⟩) ([] : List Int).length (ints []) none ([] : List Int).length (ints []) := fun wx => ⟨⟨rfl, .inl rfl⟩, ⟨rfl, .inl rfl⟩⟩
  have CV := Lib.hid (show ∀ wx : World, Calls Try.prog 134 #[.agg #[.int .i64 L, .int .i64 P, .slice (some ⟨g1, o1, none⟩) 0 cap1, .slice none 0 0]] wx fun e w' => e = .returned (.bool true) ∧ Ext wx w' from fun wx =>
    c_impl_ValidWindow L P (some ⟨g1, o1, none⟩) cap1 [] none 0 [] wx (r := true) hr.w (by decide) (rd2 wx))
  have CF := Lib.hid (show ∀ wx : World, Calls Try.prog 136 #[.slice (some ⟨g1, o1, none⟩) 0 cap1, .func (.func 137) #[.agg #[.int .i64 t, .int .i64 L]] #[]] wx fun e w' => e = .returned (.int .i64 (-1)) ∧ Ext wx w' from fun wx =>
    c_IndexFunc_has t L (some ⟨g1, o1, none⟩) 0 cap1 [] wx (d := 0) (by decide) ⟨Nat.le_refl _, fun i hi => absurd hi (Nat.not_lt_zero _), fun i _ hi => absurd hi (Nat.not_lt_zero _)⟩ (fun i hi => absurd hi (Nat.not_lt_zero _)) (by decide) (rd2 wx).r1 hr.t1 hr.t2 hr.ok.d.l1 hr.ok.d.l2)
  have HRES := Lib.hid (show ∀ wx : World, Ext w wx → RetKept L P [] [] w (.returned (.tuple #[.agg #[.int .i64 L, .int .i64 P, .slice (some ⟨g1, o1, none⟩) 0 0, .slice none 0 0], .bool true])) wx from fun wx xx => ⟨(some ⟨g1, o1, none⟩), none, rfl, rd2 wx, xx⟩)
  have BX := Lib.hid ((Box.alloc w #[.int .i64 L, .int .i64 P, .slice (some ⟨g1, o1, none⟩) 0 cap1, .slice none 0 0] 46).past (.cells #[.int .i64 0, .int .i64 0, .slice none 0 0, .slice none 0 0] 46))
  have BZ := Lib.hid (Box.alloc_at (w.alloc (.cells #[.int .i64 L, .int .i64 P, .slice (some ⟨g1, o1, none⟩) 0 cap1, .slice none 0 0] 46)) #[.int .i64 0, .int .i64 0, .slice none 0 0, .slice none 0 0] 46 (b := w.heap.size + 1) (by simp))
  have X0 := Lib.hid (((Ext.refl w).stepA (.cells #[.int .i64 L, .int .i64 P, .slice (some ⟨g1, o1, none⟩) 0 cap1, .slice none 0 0] 46)).stepA (.cells #[.int .i64 0, .int .i64 0, .slice none 0 0, .slice none 0 0] 46))
  obtain ⟨b0, b1, b2, b3⟩ := BX.out.four
  have q1 : w.heap.size ≠ w.heap.size + 1 := by omega
  have q2 : w.heap.size + 1 ≠ w.heap.size := by omega
  clear hr rd2
  go_enter Try.func80, Try.ntmps80
  go_wp2_with fail
  clear b0 b1 b2 b3
  refine (CV.out _).mono ?_; rintro e w1 ⟨rfl, x1⟩
  have X1 := Lib.hid (X0.out.trans x1)
  have BX1 := Lib.hid (BX.out.on x1)
  have BZ1 := Lib.hid (BZ.out.on x1)
  obtain ⟨b0, b1, b2, b3⟩ := BX1.out.four
  clear x1
  go_wp2_with fail
  refine (c_impl_isTime t _ HT.out).mono ?_; rintro e w1' ⟨rfl, rfl⟩
  go_wp2_with fail
  clear b0 b1 b2 b3
  refine (CF.out _).mono ?_; rintro e w3 ⟨rfl, x3⟩
  have X3 := Lib.hid (X1.out.trans x3)
  have BX3 := Lib.hid (BX1.out.on x3)
  have BZ3 := Lib.hid (BZ1.out.on x3)
  obtain ⟨b0, b1, b2, b3⟩ := BX3.out.four
  obtain ⟨z0, z1, z2, z3⟩ := BZ3.out.four
  obtain ⟨f0, f1, f2, f3⟩ := BZ3.out.free
  clear x3
  go_upto_region 7 with fail
  go_region_held3 (fun w' => w'.cell? ⟨w.heap.size, 0, none⟩ = some (.int .i64 L) ∧ w'.cell? ⟨w.heap.size, 1, none⟩ = some (.int .i64 P) ∧ w'.cell? ⟨w.heap.size, 2, none⟩ = some (.slice (some ⟨g1, o1, none⟩) 0 cap1) ∧ w'.cell? ⟨w.heap.size, 3, none⟩ = some (.slice none 0 0)) (go_keep) (fail)
  all_goals
    go_wp2
    refine bodyPost_ret (v := .tuple #[.agg #[.int .i64 L, .int .i64 P, .slice (some ⟨g1, o1, none⟩) 0 0, .slice none 0 0], .bool true]) (by simp [results, Try.results80, go_sem, z0, z1, z2, z3]) rfl (HRES.out _ ?_)
    (repeat (first | assumption | exact Ext.refl _ | (with_reducible refine Ext.stepS ?_ (by first | exact Nat.le_refl _ | (simp; done) | (simp; omega)) _) | (with_reducible refine Ext.stepN ?_ _) | (with_reducible refine Ext.stepD ?_) | (with_reducible refine Ext.stepA ?_ _)))
set_option maxRecDepth 100000 in
set_option maxHeartbeats 4000000 in
theorem c_impl_keptAt_nil_ss (L P : Int) (g1 o1 cap1 : Nat) (g2 o2 cap2 : Nat) (t : Int) (w : World) (hr : LateOk L P [] [] t) :
    Calls Try.prog 80 #[.agg #[.int .i64 L, .int .i64 P, .slice (some ⟨g1, o1, none⟩) 0 cap1, .slice (some ⟨g2, o2, none⟩) 0 cap2], .int .i64 t] w (RetKept L P [] [] w) := by
  have HT := Lib.hid (inB_isW.2 ⟨hr.t1, hr.t2⟩)
  have rd2 : ∀ wx : World, Reads2 wx (some ⟨g1, o1, none⟩) ([] : List Int).length (ints []) (some ⟨g2, o2, none⟩) ([] : List Int).length (ints []) := fun wx => ⟨⟨rfl, .inl rfl⟩, ⟨rfl, .inl rfl⟩⟩
  have CV := Lib.hid (show ∀ wx : World, Calls Try.prog 134 #[.agg #[.int .i64 L, .int .i64 P, .slice (some ⟨g1, o1, none⟩) 0 cap1, .slice (some ⟨g2, o2, none⟩) 0 cap2]] wx fun e w' => e = .returned (.bool true) ∧ Ext wx w' from fun wx =>
    c_impl_ValidWindow L P (some ⟨g1, o1, none⟩) cap1 [] (some ⟨g2, o2, none⟩) cap2 [] wx (r := true) hr.w (by decide) (rd2 wx))
  have CF := Lib.hid (show ∀ wx : World, Calls Try.prog 136 #[.slice (some ⟨g1, o1, none⟩) 0 cap1, .func (.func 137) #[.agg #[.int .i64 t, .int .i64 L]] #[]] wx fun e w' => e = .returned (.int .i64 (-1)) ∧ Ext wx w' from fun wx =>
    c_IndexFunc_has t L (some ⟨g1, o1, none⟩) 0 cap1 [] wx (d := 0) (by decide) ⟨Nat.le_refl _, fun i hi => absurd hi (Nat.not_lt_zero _), fun i _ hi => absurd hi (Nat.not_lt_zero _)⟩ (fun i hi => absurd hi (Nat.not_lt_zero _)) (by decide) (rd2 wx).r1 hr.t1 hr.t2 hr.ok.d.l1 hr.ok.d.l2)
  have HRES := Lib.hid (show ∀ wx : World, Ext w wx → RetKept L P [] [] w (.returned (.tuple #[.agg #[.int .i64 L, .int .i64 P, .slice (some ⟨g1, o1, none⟩) 0 0, .slice (some ⟨g2, o2, none⟩) 0 0], .bool true])) wx from fun wx xx => ⟨(some ⟨g1, o1, none⟩), (some ⟨g2, o2, none⟩), rfl, rd2 wx, xx⟩)
  have BX := Lib.hid ((Box.alloc w #[.int .i64 L, .int .i64 P, .slice (some ⟨g1, o1, none⟩) 0 cap1, .slice (some ⟨g2, o2, none⟩) 0 cap2] 46).past (.cells #[.int .i64 0, .int .i64 0, .slice none 0 0, .slice none 0 0] 46))
  have BZ := Lib.hid (Box.alloc_at (w.alloc (.cells #[.int .i64 L, .int .i64 P, .slice (some ⟨g1, o1, none⟩) 0 cap1, .slice (some ⟨g2, o2, none⟩) 0 cap2] 46)) #[.int .i64 0, .int .i64 0, .slice none 0 0, .slice none 0 0] 46 (b := w.heap.size + 1) (by simp))
  have X0 := Lib.hid (((Ext.refl w).stepA (.cells #[.int .i64 L, .int .i64 P, .slice (some ⟨g1, o1, none⟩) 0 cap1, .slice (some ⟨g2, o2, none⟩) 0 cap2] 46)).stepA (.cells #[.int .i64 0, .int .i64 0, .slice none 0 0, .slice none 0 0] 46))
  obtain ⟨b0, b1, b2, b3⟩ := BX.out.four
  have q1 : w.heap.size ≠ w.heap.size + 1 := by omega
  have q2 : w.heap.size + 1 ≠ w.heap.size := by omega
  clear hr rd2
  go_enter Try.func80, Try.ntmps80
  go_wp2_with fail
  clear b0 b1 b2 b3
  refine (CV.out _).mono ?_; rintro e w1 ⟨rfl, x1⟩
  have X1 := Lib.hid (X0.out.trans x1)
  have BX1 := Lib.hid (BX.out.on x1)
  have BZ1 := Lib.hid (BZ.out.on x1)
  obtain ⟨b0, b1, b2, b3⟩ := BX1.out.four
  clear x1
  go_wp2_with fail
  refine (c_impl_isTime t _ HT.out).mono ?_; rintro e w1' ⟨rfl, rfl⟩
  go_wp2_with fail
  clear b0 b1 b2 b3
  refine (CF.out _).mono ?_; rintro e w3 ⟨rfl, x3⟩
  have X3 := Lib.hid (X1.out.trans x3)
  have BX3 := Lib.hid (BX1.out.on x3)
  have BZ3 := Lib.hid (BZ1.out.on x3)
  obtain ⟨b0, b1, b2, b3⟩ := BX3.out.four
  obtain ⟨z0, z1, z2, z3⟩ := BZ3.out.four
  obtain ⟨f0, f1, f2, f3⟩ := BZ3.out.free
  clear x3
  go_upto_region 7 with fail
  go_region_held3 (fun w' => w'.cell? ⟨w.heap.size, 0, none⟩ = some (.int .i64 L) ∧ w'.cell? ⟨w.heap.size, 1, none⟩ = some (.int .i64 P) ∧ w'.cell? ⟨w.heap.size, 2, none⟩ = some (.slice (some ⟨g1, o1, none⟩) 0 cap1) ∧ w'.cell? ⟨w.heap.size, 3, none⟩ = some (.slice (some ⟨g2, o2, none⟩) 0 cap2)) (go_keep) (fail)
  all_goals
    go_wp2
    refine bodyPost_ret (v := .tuple #[.agg #[.int .i64 L, .int .i64 P, .slice (some ⟨g1, o1, none⟩) 0 0, .slice (some ⟨g2, o2, none⟩) 0 0], .bool true]) (by simp [results, Try.results80, go_sem, z0, z1, z2, z3]) rfl (HRES.out _ ?_)
    (repeat (first | assumption | exact Ext.refl _ | (with_reducible refine Ext.stepS ?_ (by first | exact Nat.le_refl _ | (simp; done) | (simp; omega)) _) | (with_reducible refine Ext.stepN ?_ _) | (with_reducible refine Ext.stepD ?_) | (with_reducible refine Ext.stepA ?_ _)))
theorem c_impl_keptAt_yes (L P : Int) (a1 : Option Addr) (cap1 : Nat) (ts : List Int) (a2 : Option Addr) (cap2 : Nat) (zs : List Int) (t : Int) (w : World) (hr : LateOk L P ts zs t) (hl : ts.length + zs.length ≤ 1048576) (h : Reads2 w a1 ts.length (ints ts) a2 zs.length (ints zs)) (k1 : SlS a1 ts.length cap1) (k2 : SlS a2 zs.length cap2) :
    Calls Try.prog 80 #[.agg #[.int .i64 L, .int .i64 P, .slice a1 ts.length cap1, .slice a2 zs.length cap2], .int .i64 t] w (RetKept L P (kepT L ts t) (kepZ L ts zs t) w) := by
  have hzl : zs.length = ts.length := hr.ok.d.hk
  by_cases h0 : ts.length = 0
  · obtain rfl : ts = [] := List.eq_nil_of_length_eq_zero h0
    obtain rfl : zs = [] := List.eq_nil_of_length_eq_zero (by rw [hzl]; rfl)
    show Calls Try.prog 80 #[.agg #[.int .i64 L, .int .i64 P, .slice a1 0 cap1, .slice a2 0 cap2], .int .i64 t] w (RetKept L P [] [] w)
    rcases k1.2 with ⟨rfl, rfl⟩ | ⟨g1, o1, rfl⟩
    · rcases k2.2 with ⟨rfl, rfl⟩ | ⟨g2, o2, rfl⟩
      · exact c_impl_keptAt_nil_nn L P t w hr
      · exact c_impl_keptAt_nil_ns L P g2 o2 cap2 t w hr
    · rcases k2.2 with ⟨rfl, rfl⟩ | ⟨g2, o2, rfl⟩
      · exact c_impl_keptAt_nil_sn L P g1 o1 cap1 t w hr
      · exact c_impl_keptAt_nil_ss L P g1 o1 cap1 g2 o2 cap2 t w hr
  · obtain ⟨m, hm⟩ : ∃ m, ts.length = m + 1 := ⟨ts.length - 1, by omega⟩
    rcases k1.2 with ⟨rfl, rfl⟩ | ⟨g1, o1, rfl⟩
    · have := k1.1; omega
    rcases k2.2 with ⟨rfl, rfl⟩ | ⟨g2, o2, rfl⟩
    · have := k2.1; omega
    have hd := out_ok (c := t - L) hr.ok.a
    have e1 := k1.1
    have e2 := k2.1
    rw [hzl, hm] at h e2
    rw [hm] at e1
    rw [hzl, hm]
    exact c_impl_keptAt_some L P g1 o1 cap1 ts g2 o2 cap2 zs t w m _ hr hm hd h e1 e2
end Go.Proofs.Ytplngjbllllanaa
