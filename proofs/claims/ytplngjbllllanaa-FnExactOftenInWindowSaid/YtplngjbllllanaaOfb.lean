/- What is most often in a list, by the program: a map that counts, the list in order, the first that is most often. -/
import Derived.Test.YtplngjbllllanaaOfa
import Derived.Test.YtplngjbllllanaaVas
namespace Go.Proofs.Ytplngjbllllanaa
open Go.ChangeShapes Go.WideShapes Go.ChangeAt Go.RowKit Go.Maps Go.WideMaps
set_option linter.unusedVariables false
theorem oftKeyed : Keyed Try.prog 2 := int_keyed Try.underlying2
theorem oftKey {x : Int} (h : (Lit.int .i64 x).wf = true) : keyOf Try.prog 2 (.int .i64 x) = some (.int .i64 x) := keyOf_int_mk Try.underlying2 h
theorem oftZero (w : World) : (zeroValue 3).run Try.prog w = .ok (.int .i64 0) w := by kernel_rfl
set_option maxRecDepth 100000 in
theorem c_oftLess (pb bm q : Nat) (zs : List Int) (x y : Int) (w : World) {D : DataW Unit} {b : Bool} (hb : decide (cntI zs y < cntI zs x) = b) (hx : (Lit.int .i64 x).wf = true) (hy : (Lit.int .i64 y).wf = true) (hD : CntD D zs)
    (hp : w.cell? ⟨pb, 0, none⟩ = some (.map (some bm))) (hown : w.ownsMap Try.prog 2 (plainElem Try.prog 3) bm q D) :
    Calls Try.prog 148 #[.int .i64 x, .int .i64 y, .pointer (some ⟨pb, 0, none⟩)] w fun e w' => e = .returned (.bool b) ∧ w = w' := by
  have HB := Lib.hid hb
  have HD := Lib.hid hD
  have HX := Lib.hid (oftKey hx)
  have HY := Lib.hid (oftKey hy)
  have HO := Lib.hid hown
  clear hb hD hx hy hown
  go_enter Try.func148, Try.ntmps148
  go_wp2_with (first
    | (at_lookup; refine wpList_lookup_own_int _ rfl _ _ 159 rfl 2 3 .i64 oftKeyed Try.underlying159 Try.underlying3 (oftZero _) bm q _ rfl HO.out _ _ rfl HX.out ?_; intro c hat hwc; rw [HD.out.a] at hat; injection hat with hat; injection hat with _ hat; subst hat; clear hwc)
    | (at_lookup; refine wpList_lookup_own_int _ rfl _ _ 159 rfl 2 3 .i64 oftKeyed Try.underlying159 Try.underlying3 (oftZero _) bm q _ rfl HO.out _ _ rfl HY.out ?_; intro c hat hwc; rw [HD.out.a] at hat; injection hat with hat; injection hat with _ hat; subst hat; clear hwc))
  go_ret
  exact ⟨retB_o (by first | (rw [← HB.out]; done) | (rw [← HB.out]; simp)), rfl⟩
theorem c_firstMost (pb bm q : Nat) (b off n cap : Nat) (zs ys : List Int) (w : World) {D : DataW Unit} {m : Nat} (hm : leastAt (fun i => -((cntI zs (getI ys i) : Nat) : Int)) n = m) (hn : n ≤ 1048576) (h1 : 1 ≤ n) (hy : ys.length = n) (hD : CntD D zs) (hmany : ManyOk ys) (h : Reads w (some ⟨b, off, none⟩) n (ints ys))
    (hp : w.cell? ⟨pb, 0, none⟩ = some (.map (some bm))) (hown : w.ownsMap Try.prog 2 (plainElem Try.prog 3) bm q D) :
    Calls Try.prog 100 #[.slice (some ⟨b, off, none⟩) n cap, .func (.func 148) #[] #[.pointer (some ⟨pb, 0, none⟩)]] w fun e w' => e = .returned (.int .i64 (m : Nat)) ∧ w = w' := by
  obtain ⟨f, hf⟩ : ∃ f : Nat → Int, (fun i => -((cntI zs (getI ys i) : Nat) : Int)) = f := ⟨_, rfl⟩
  have HF := Lib.hid (show ∀ i, -((cntI zs (getI ys i) : Nat) : Int) = f i from fun i => congrFun hf i)
  rw [hf] at hm
  have HM := Lib.hid hm
  have HC := Lib.hid (show ∀ i, i < n → w.cell? ⟨b, off + i, none⟩ = some (.int .i64 (getI ys i)) by
    rcases h.int.2 with h0 | ⟨b', off', he, hc⟩
    · omega
    · cases he; exact hc)
  have HL := Lib.hid (show ∀ x y v, decide (cntI zs y < cntI zs x) = v → (Lit.int .i64 x).wf = true → (Lit.int .i64 y).wf = true → Calls Try.prog 148 #[.int .i64 x, .int .i64 y, .pointer (some ⟨pb, 0, none⟩)] w fun e w' => e = .returned (.bool v) ∧ w = w' from fun x y v hv hx hy => c_oftLess pb bm q zs x y w hv hx hy hD hp hown)
  have HW := Lib.hid (show ∀ i, i < n → (Lit.int .i64 (getI ys i)).wf = true from fun i hi => by
    have := hmany.at (i := i) (by omega); exact wf_many this.1 this.2)
  have hnI : (n : Int) ≤ 1048576 := by omega
  clear hf hm h hp hown hmany hD hy
  go_enter Try.func100, Try.ntmps100
  go_wp2
  go_loopw [5, 10] (fun m i wr => ∃ k : Nat, k ≤ n ∧ i = .int .i64 k ∧ m = .int .i64 (leastAt f k : Nat) ∧ w = wr) (fun _ i _ => n - (intOf i).toNat)
  case atStart => exact ⟨0, by omega, rfl, rfl, rfl⟩
  case round =>
    obtain ⟨k, hk, rfl, rfl, rfl⟩ := hrel
    by_cases hlt : k < n
    · have hltI : (k : Int) < (n : Int) := by omega
      obtain ⟨m0, hm0⟩ : ∃ m, leastAt f k = m := ⟨_, rfl⟩
      have hml : m0 < n := by
        rw [← hm0]
        by_cases h0 : k = 0
        · subst h0; exact hlt
        · have := leastAt_le f k (by omega); omega
      have hmlI : (m0 : Int) < (n : Int) := by omega
      have hcx := HC.out k hlt
      have hcy := HC.out m0 hml
      have HWX := Lib.hid (HW.out k hlt)
      have HWY := Lib.hid (HW.out m0 hml)
      have HFX := Lib.hid (HF.out k)
      have HFY := Lib.hid (HF.out m0)
      obtain ⟨u, hu⟩ : ∃ u, getI ys k = u := ⟨_, rfl⟩
      obtain ⟨v, hv⟩ : ∃ v, getI ys m0 = v := ⟨_, rfl⟩
      rw [hu] at hcx HWX HFX
      rw [hv] at hcy HWY HFY
      rw [hm0]
      by_cases hlt2 : cntI zs v < cntI zs u
      · have HLS := Lib.hid (show leastAt f (k + 1) = k from leastAt_yes (by rw [hm0, ← HFX.out, ← HFY.out]; omega))
        have HD := Lib.hid (show decide (cntI zs v < cntI zs u) = true from decide_eq_true hlt2)
        clear hu hv hm0 hlt2
        go_wp2_with (go_at_call 148; refine (HL.out u v _ HD.out HWX.out HWY.out).mono ?_; rintro e w' ⟨rfl, rfl⟩)
        go_roundw
        case rel => exact ⟨k + 1, by omega, by go_num, by rw [HLS.out], by first | rfl | trivial⟩
        case measure => simp [intOf]; omega
      · have HLS := Lib.hid (show leastAt f (k + 1) = m0 from by rw [leastAt_no (by rw [hm0, ← HFX.out, ← HFY.out]; omega), hm0])
        have HD := Lib.hid (show decide (cntI zs v < cntI zs u) = false from decide_eq_false hlt2)
        clear hu hv hm0 hlt2
        go_wp2_with (go_at_call 148; refine (HL.out u v _ HD.out HWX.out HWY.out).mono ?_; rintro e w' ⟨rfl, rfl⟩)
        go_roundw
        case rel => exact ⟨k + 1, by omega, by go_num, by rw [HLS.out], by first | rfl | trivial⟩
        case measure => simp [intOf]; omega
    · obtain rfl : k = n := by omega
      go_wp2
      go_ret
      exact ⟨by rw [HM.out]; rfl, rfl⟩
set_option maxRecDepth 100000 in
set_option maxHeartbeats 1000000 in
theorem c_mostOften (b off n cap : Nat) (zs : List Int) (w : World) (h1 : 1 ≤ n) (hn : n ≤ 1000) (hmany : ManyOk zs) (h : Reads w (some ⟨b, off, none⟩) n (ints zs)) :
    Calls Try.prog 91 #[.slice (some ⟨b, off, none⟩) n cap] w fun e w' => e = .returned (.int .i64 (oftI zs)) ∧ Ext w w' := by
  have hz := h.int.1
  have HZ := Lib.hid hz
  have H := Lib.hid h
  have hcs : ∀ i, i < n → w.cell? ⟨b, off + i, none⟩ = some (.int .i64 (getI zs i)) := by
    rcases h.int.2 with h0 | ⟨b', off', he, hc⟩
    · omega
    · cases he; exact hc
  have HC := Lib.hid hcs
  have HMA := Lib.hid hmany
  have hnI : (n : Int) ≤ 1000 := by omega
  have hmm := @run_makeMap Try.prog
  have HN := Lib.hid (show n ≤ 1048576 by omega)
  clear h hz hcs hmany
  go_enter Try.func91, Try.ntmps91
  go_wp2
  go_loopw [10] (fun i wr => ∃ k : Nat, k ≤ n ∧ i = .int .i64 k ∧ (∃ D, wr.ownsMap Try.prog 2 (plainElem Try.prog 3) w.heap.size k D ∧ CntD D (zs.take k)) ∧ Box wr (w.heap.size + 1) 159 #[.map (some w.heap.size)] ∧ Ext w wr) (fun i _ => n - (intOf i).toNat)
  case atStart => exact ⟨0, Nat.zero_le _, rfl, ⟨_, World.ownsMap.alloc (World.ownsMap_made _ _ _ _) _, by rw [List.take_zero]; exact CntD.nil⟩, Box.alloc_at _ _ _ (by simp), by (repeat (first | assumption | exact Ext.refl _ | (with_reducible refine Ext.stepS ?_ (by first | exact Nat.le_refl _ | (simp; done) | (simp; omega)) _) | (with_reducible refine Ext.stepN ?_ _) | (with_reducible refine Ext.stepD ?_) | (with_reducible refine Ext.stepA ?_ _)))⟩
  case round =>
    obtain ⟨k, hk, rfl, ⟨D, hown, hcd⟩, hbx, hext⟩ := hrel
    have HO := Lib.hid hown
    have HD := Lib.hid hcd
    have HBX := Lib.hid hbx
    have HE := Lib.hid hext
    clear hown hcd hbx hext hmm
    have bx := HBX.out.cell 0
    by_cases hlt : k < n
    · have hltI : (k : Int) < (n : Int) := by omega
      have c1 := HE.out.some (HC.out k hlt)
      have hbd := HMA.out.at (i := k) (by have := HZ.out; omega)
      have HT := Lib.hid (show zs.take (k + 1) = zs.take k ++ [getI zs k] by
        rw [List.take_succ_eq_append_getElem (by have := HZ.out; omega)]
        unfold getI; rw [List.getElem?_eq_getElem (by have := HZ.out; omega)]; rfl)
      obtain ⟨x, hx⟩ : ∃ x, getI zs k = x := ⟨_, rfl⟩
      rw [hx] at c1 hbd HT
      have HK := Lib.hid (oftKey (wf_many hbd.1 hbd.2))
      have hk30 : k < maxLen := by unfold maxLen; omega
      obtain ⟨c0, hc0⟩ : ∃ c0, cntI (zs.take k) x = c0 := ⟨_, rfl⟩
      have hcl : c0 ≤ k := by rw [← hc0]; have := cntI_le (zs.take k) x; rw [List.length_take] at this; omega
      have HA := Lib.hid (show D.atKey (.int .i64 x) (.lit (.int .i64 0)) = .lit (.int .i64 ((c0 : Nat) : Int)) by rw [HD.out.a, hc0])
      have HS := Lib.hid (show CntD (D.put (.int .i64 x) (.lit (.int .i64 (((c0 : Nat) : Int) + 1)))) (zs.take (k + 1)) by rw [HT.out, ← hc0]; exact HD.out.step x)
      have hwf : (Lit.int .i64 (((c0 : Nat) : Int) + 1)).wf = true := wf_many (by omega) (by omega)
      have HWF := Lib.hid hwf
      clear hx hbd hc0 hwf
      go_wp2_with (first
        | (at_lookup; refine wpList_lookup_own_int _ rfl _ _ 159 rfl 2 3 .i64 oftKeyed Try.underlying159 Try.underlying3 (oftZero _) w.heap.size k _ rfl HO.out _ _ rfl HK.out ?_; intro c hat hwc; rw [HA.out] at hat; injection hat with hat; injection hat with _ hat; subst hat; clear hwc)
        | (at_mapUpdate; refine wpList_mapUpdate_own _ rfl _ _ _ 159 rfl 2 3 oftKeyed Try.underlying159 (plainElem (H := Unit) Try.prog 3) w.heap.size k _ rfl HO.out hk30 _ _ _ rfl rfl HK.out _ [] (plainElem_int Try.underlying3 HWF.out) ?_; intro w1 hown1 hgrow1; have HO1 := Lib.hid hown1; have HG1 := Lib.hid hgrow1; clear hown1 hgrow1))
      go_roundw
      case rel => exact ⟨k + 1, by omega, by go_num, ⟨_, HO1.out, HS.out⟩, (show w1.heap[w.heap.size + 1]? = _ from (HG1.out.block _ HBX.out.lt (by simp)).trans HBX.out), Below.grown HE.out HG1.out HE.out.size (fun j hj => by cases hj; exact Nat.le_refl _)⟩
      case measure => simp [intOf]; omega
    · have hkn : k = n := by omega
      subst hkn
      have hlt' : ¬ (k : Int) < (k : Int) := by omega
      have HTK := Lib.hid (show zs.take k = zs from List.take_of_length_le (by have := HZ.out; omega))
      rw [HTK.out] at HD
      go_wp2_with (go_at_call 147; refine (c_Values _ _ _ _).mono ?_; rintro e w1 ⟨rfl, hw1⟩; have HW1 := Lib.hid hw1; clear hw1)
      have XE1 := Lib.hid (show Ext wr w1 by rw [HW1.out]; exact Ext.alloc _ _)
      have HBV := Lib.hid (show Box w1 wr.heap.size 40 #[.slice (some ⟨b, off, none⟩) k cap] by rw [HW1.out]; exact Box.alloc _ _ _)
      clear bx
      refine (c_SortedValues _ _ k cap zs _ HN.out ((H.out.on HE.out).on XE1.out) (HBV.out.cell 0)).mono ?_; rintro e w2 ⟨a2, c2, rfl, o2, x2⟩
      have HX2 := Lib.hid (XE1.out.trans x2)
      have hsl : (sortZ zs).length = k := by rw [sortZ_length]; exact HZ.out
      obtain ⟨g2, f2, rfl, q1, q2, q3, q4, q5⟩ := o2.rowT (by omega)
      have RD := Lib.hid o2.reads
      have bx := (HBX.out.on HX2.out).cell 0
      have hmlt : leastAt (oftF zs) k < k := leastAt_le _ _ h1
      have HOFT := Lib.hid (show oftI zs = getI (sortZ zs) (leastAt (oftF zs) k) by unfold oftI; rw [HZ.out])
      obtain ⟨m, hm⟩ : ∃ m, leastAt (oftF zs) k = m := ⟨_, rfl⟩
      have HM := Lib.hid (show leastAt (fun i => -((cntI zs (getI (sortZ zs) i) : Nat) : Int)) k = m from hm)
      rw [hm] at hmlt HOFT
      have hmI : (m : Int) < (k : Int) := by omega
      have cm : w2.cell? ⟨g2, m, none⟩ = some (.int .i64 (oftI zs)) := by
        rw [HOFT.out]
        have := q5.cell (i := m) (by omega)
        rw [rowT_at (by omega)] at this
        exact this
      have HSM := Lib.hid (show ManyOk (sortZ zs) from fun x hx => HMA.out x ((sortZ_mem zs x).1 hx))
      have HSL := Lib.hid hsl
      have HOM := Lib.hid (owns_map HO.out (Below.block HX2.out w.heap.size (by have := HBX.out.lt; omega)))
      clear o2 x2 q1 q2 q3 q4 q5 hsl hm
      go_wp2_with (go_at_call 100; refine (c_firstMost (w.heap.size + 1) w.heap.size k _ _ k _ zs (sortZ zs) _ HM.out HN.out h1 HSL.out HD.out HSM.out RD.out bx HOM.out).mono ?_; rintro e w3 ⟨rfl, rfl⟩)
      go_ret
      exact ⟨rfl, HE.out.trans HX2.out⟩
end Go.Proofs.Ytplngjbllllanaa
