/- The list of the least last ones of each index, by the program. -/
import Derived.Test.YtfbapbgiegploaaYma
import Derived.Test.YtfbapbgiegploaaCis3
namespace Go.Proofs.Ytfbapbgiegploaa
open Go.ChangeShapes Go.WideShapes Go.ChangeAt Go.RowKit Go.Shelf
set_option linter.unusedVariables false
attribute [local go_sem] Oper.semAt_some
theorem c_slices_Min (b off n cap : Nat) (zs : List Int) (w : World) (h1 : 1 ≤ n) (hn : n ≤ 1048576) (h : Reads w (some ⟨b, off, none⟩) n (ints zs)) :
    Calls Try.prog 104 #[.slice (some ⟨b, off, none⟩) n cap] w fun e w' => e = .returned (.int .i64 (leastI zs)) ∧ w = w' := by
  obtain ⟨hz, hr⟩ := h.int
  have HZ := Lib.hid hz
  have hn' : (n : Int) ≤ 1048576 := by omega
  rcases hr with h0 | ⟨b', off', he, hc⟩
  · omega
  cases he
  have HC := Lib.hid hc
  have HS := Lib.hid (show ∀ k, k < n → (zs.take (k + 1)).foldl minI (getI zs 0) = minI ((zs.take k).foldl minI (getI zs 0)) (getI zs k) from fun k hk => fold_take zs _ k (by omega))
  obtain ⟨x0, hx0⟩ : ∃ x, zs[0]?.getD 0 = x := ⟨_, rfl⟩
  have c0 := hc 0 (by omega)
  rw [hx0, Nat.add_zero] at c0
  have HX0 := Lib.hid (show getI zs 0 = x0 from hx0)
  have e1 : ¬ (n : Int) < 1 := by omega
  have e2 : (0 : Int) < (n : Int) := by omega
  clear hz hc hx0 h
  go_enter Try.func104, Try.ntmps104
  go_wp2
  go_loopw [3, 4] (fun m i wr => ∃ k : Nat, 1 ≤ k ∧ k ≤ n ∧ i = .int .i64 k ∧ m = .int .i64 ((zs.take k).foldl minI (getI zs 0)) ∧ w = wr) (fun _ i _ => n - (intOf i).toNat)
  case atStart => exact ⟨1, Nat.le_refl _, h1, rfl, by rw [HS.out 0 (by omega), List.take_zero, HX0.out]; show _ = Value.int .i64 (minI x0 x0); rw [minI_ok.i], rfl⟩
  case round =>
    obtain ⟨k, hk1, hk, rfl, rfl, rfl⟩ := hrel
    by_cases hlt : k < n
    · have hltI : (k : Int) < (n : Int) := by omega
      obtain ⟨x, hx⟩ : ∃ x, zs[k]?.getD 0 = x := ⟨_, rfl⟩
      have hcell := HC.out k hlt
      rw [hx] at hcell
      have HN := Lib.hid (HS.out k hlt)
      have HX := Lib.hid (show getI zs k = x from hx)
      obtain ⟨y, hy⟩ : ∃ y, (zs.take k).foldl minI (getI zs 0) = y := ⟨_, rfl⟩
      have HY := Lib.hid hy
      rw [hy]
      clear hx hy
      by_cases hxy : x < y
      · have HM := Lib.hid (show minI y x = x from if_pos hxy)
        have hmm : min y x = x := by omega
        go_wp2
        go_roundw
        case rel => exact ⟨k + 1, by omega, by omega, by go_num, by rw [HN.out, HX.out, HY.out, HM.out], by first | rfl | trivial⟩
        case measure => simp [intOf]; omega
      · have HM := Lib.hid (show minI y x = y from if_neg hxy)
        have hmm : min y x = y := by omega
        go_wp2
        go_roundw
        case rel => exact ⟨k + 1, by omega, by omega, by go_num, by rw [HN.out, HX.out, HY.out, HM.out], by first | rfl | trivial⟩
        case measure => simp [intOf]; omega
    · have hkn : k = n := by omega
      have HK := Lib.hid hkn
      have hltI : ¬ (k : Int) < (n : Int) := by omega
      obtain ⟨y, hy⟩ : ∃ y, (zs.take k).foldl minI (getI zs 0) = y := ⟨_, rfl⟩
      have HY := Lib.hid (show leastI zs = y by rw [← hy, hkn, ← HZ.out, List.take_length]; rfl)
      rw [hy]
      clear hkn hy
      go_wp2
      go_ret
      exact ⟨by rw [HY.out]; rfl, rfl⟩
set_option maxRecDepth 100000 in
set_option maxHeartbeats 4000000 in
theorem c_tellLast_Min (b off n cap long : Nat) (zs : List Int) (w : World) (h1 : 1 ≤ n) (hn : n ≤ 128) (hnc : n ≤ cap) (hl1 : 1 ≤ long) (hl2 : long ≤ 128) (h : Reads w (some ⟨b, off, none⟩) n (ints zs)) :
    Calls Try.prog 210 #[.slice (some ⟨b, off, none⟩) n cap, .int .i64 (long : Int), .func (.func 104) #[] #[]] w (RetS 2 n (ints (tellZ leastI zs long)) w) := by
  obtain ⟨hz, hr⟩ := h.int
  have hcs : ∀ i, i < n → w.cell? ⟨b, off + i, none⟩ = some (.int .i64 (zs[i]?.getD 0)) := by
    rcases hr with h0 | ⟨b', off', he, hc⟩
    · omega
    · cases he; exact hc
  refine (callsIn_wide (n := 6)).1 ?_
  refine callsIn_of_wp_marks Try.func210 rfl trivial ?_ rfl
  simp only [Try.ntmps210, List.size_toArray, List.length_cons, List.length_nil, Nat.reduceAdd, Nat.reduceSub, Array.replicate_succ, Array.replicate_zero, List.push_toArray, List.append_toArray, List.nil_append, List.cons_append]
  have hmk := run_make_row' (P := Try.prog) 25 2 (.int .i64 0) 8 Try.underlying25 info_i64 rfl .i64 .i64 n (by omega) (by omega)
  gi_wp2_with (refine ⟨trivial, ?_⟩; gi_at_call 270; refine (callsIn_wide.2 (c_lastOnes _ _ _ _ _)).mono ?_; rintro e w' ⟨rfl, rfl⟩)
  have BA := (((((Box.alloc w #[.func (.func 104) #[] #[]] 74).past (.cells (madeCells #[.int .i64 0] n) 2)).past (.cells #[.slice (some ⟨w.heap.size + 1, 0, none⟩) n n] 25)).past (.cells #[.slice (some ⟨b, off, none⟩) n cap] 25)).past (.cells #[.int .i64 (long : Int)] 2))
  have BT := (((Box.alloc_at ((w.alloc (.cells #[.func (.func 104) #[] #[]] 74)).alloc (.cells (madeCells #[.int .i64 0] n) 2)) #[.slice (some ⟨w.heap.size + 1, 0, none⟩) n n] 25 (b := w.heap.size + 1 + 1) (by simp)).past (.cells #[.slice (some ⟨b, off, none⟩) n cap] 25)).past (.cells #[.int .i64 (long : Int)] 2))
  have BS := ((Box.alloc_at (((w.alloc (.cells #[.func (.func 104) #[] #[]] 74)).alloc (.cells (madeCells #[.int .i64 0] n) 2)).alloc (.cells #[.slice (some ⟨w.heap.size + 1, 0, none⟩) n n] 25)) #[.slice (some ⟨b, off, none⟩) n cap] 25 (b := w.heap.size + 1 + 1 + 1) (by simp)).past (.cells #[.int .i64 (long : Int)] 2))
  have BL := (Box.alloc_at ((((w.alloc (.cells #[.func (.func 104) #[] #[]] 74)).alloc (.cells (madeCells #[.int .i64 0] n) 2)).alloc (.cells #[.slice (some ⟨w.heap.size + 1, 0, none⟩) n n] 25)).alloc (.cells #[.slice (some ⟨b, off, none⟩) n cap] 25)) #[.int .i64 (long : Int)] 2 (b := w.heap.size + 1 + 1 + 1 + 1) (by simp))
  have RW := ((((World.rowIs_made (w.alloc (.cells #[.func (.func 104) #[] #[]] 74)) (.int .i64 0) n 2).alloc (.cells #[.slice (some ⟨w.heap.size + 1, 0, none⟩) n n] 25)).alloc (.cells #[.slice (some ⟨b, off, none⟩) n cap] 25)).alloc (.cells #[.int .i64 (long : Int)] 2))
  rw [show (w.alloc (.cells #[.func (.func 104) #[] #[]] 74)).heap.size = w.heap.size + 1 by simp] at RW
  have X5 : Ext w (((((w.alloc (.cells #[.func (.func 104) #[] #[]] 74)).alloc (.cells (madeCells #[.int .i64 0] n) 2)).alloc (.cells #[.slice (some ⟨w.heap.size + 1, 0, none⟩) n n] 25)).alloc (.cells #[.slice (some ⟨b, off, none⟩) n cap] 25)).alloc (.cells #[.int .i64 (long : Int)] 2)) := by (repeat (first | assumption | exact Ext.refl _ | (with_reducible refine Ext.stepS ?_ (by first | exact Nat.le_refl _ | (simp; done) | (simp; omega)) _) | (with_reducible refine Ext.stepN ?_ _) | (with_reducible refine Ext.stepD ?_) | (with_reducible refine Ext.stepA ?_ _)))
  obtain ⟨W5, hW5⟩ : ∃ W5, (((((w.alloc (.cells #[.func (.func 104) #[] #[]] 74)).alloc (.cells (madeCells #[.int .i64 0] n) 2)).alloc (.cells #[.slice (some ⟨w.heap.size + 1, 0, none⟩) n n] 25)).alloc (.cells #[.slice (some ⟨b, off, none⟩) n cap] 25)).alloc (.cells #[.int .i64 (long : Int)] 2)) = W5 := ⟨_, rfl⟩
  have hs5 : W5.heap.size = w.heap.size + 5 := by rw [← hW5]; simp
  rw [hW5] at BA BT BS BL RW X5
  rw [hW5]
  refine wpIn_rangeFunc_ownG rfl (by omega) (gf := 295) (lb := #[.pointer (some ⟨w.heap.size + 1 + 1 + 1, 0, none⟩), .pointer (some ⟨w.heap.size + 1 + 1 + 1 + 1, 0, none⟩)]) rfl trivial (enters_of Try.func295 (by kernel_rfl) rfl)
    (lastOnes_stops Fence.wide 5 trivial rfl (by omega) (w.heap.size + 1 + 1 + 1) (w.heap.size + 1 + 1 + 1 + 1) W5.heap.size (w.heap.size + 1) b off n cap long hn hnc hl1 hl2 (by omega) (by omega) (by omega) (by omega) W5 (BS.cell 0) (BL.cell 0))
    (fun h k => h.trans k) (fun W l o o' hl h h1 h2 => kpG_b W l o o' hl h h1 h2) (Below.refl _ _) (fun _ => rfl)
    (LorI w W5.heap.size w.heap.size (w.heap.size + 1 + 1) (w.heap.size + 1) 2 (.func (.func 104) #[] #[]) n (fun i => leastI (lastZ zs long i))) (fun _ _ _ => False)
    (LorI.ownFrom (by omega) (by omega) (by omega) (by omega)) (fun _ _ _ _ _ hs _ _ => hs)
    ⟨Nat.le_refl _, BA.cell 0, BT.cell 0, RW.congr fun i hi => by unfold contF; rfl, X5⟩
    (fun x => { tmps := #[.slice (some ⟨b, off, none⟩) n cap, .int .i64 (long : Int), .func (.func 104) #[] #[], undef, undef, .pointer (some ⟨w.heap.size, 0, none⟩), .slice none 0 0, .pointer (some ⟨w.heap.size + 1 + 1, 0, none⟩), .int .i64 (x.1 : Int), lastV b off long x.1, .slice (some ⟨b, off, none⟩) n cap, .int .i64 (n : Int), .slice (some ⟨w.heap.size + 1, 0, none⟩) n n, .slice (some ⟨b, off, none⟩) n cap, .int .i64 (long : Int), .func (.func 295) #[] #[.pointer (some ⟨w.heap.size + 1 + 1 + 1, 0, none⟩), .pointer (some ⟨w.heap.size + 1 + 1 + 1 + 1, 0, none⟩)], .int .i64 (x.1 : Int), lastV b off long x.1, undef, undef, undef, undef, undef, undef, undef], defers := [] }) ?assign ?body ?done ?stop
  case assign =>
    intro l x W K hK
    unfold lastE
    gi_wp2
    exact hK
  case body =>
    rintro l pre x W hI _
    have a1 := hI.a
    have a2 := hI.ts
    have a3 := hI.r.cell x.2
    have a4 := hI.r.frozen x.1
    have hxn : (x.1 : Int) < (n : Int) := by have := x.2; omega
    have hx0 : (0 : Int) ≤ (x.1 : Int) := by omega
    have HRD := Lib.hid (reads_last hz (fun i hi => (Ext.some hI.b (hcs i hi))) long x.1 x.2)
    obtain ⟨v, hv⟩ : ∃ v, leastI (lastZ zs long x.1) = v := ⟨_, rfl⟩
    have HV := Lib.hid hv
    have HI := Lib.hid hI
    have hx3 : x.1 < n := x.2
    have hmx : Try.prog.follows .mixedOrders = true := by kernel_rfl
    unfold lastV
    gi_wp2
    gi_region_with_o (refine ⟨trivial, ?_⟩; gi_at_call 104; refine (CallsIn.inRound l (callsIn_wide.2 (c_slices_Min _ _ _ _ _ _ (by omega) (by omega) (HRD.out.on (by (repeat (first | assumption | exact Ext.refl _ | (with_reducible refine Ext.stepS ?_ (by first | exact Nat.le_refl _ | (simp; done) | (simp; omega)) _) | (with_reducible refine Ext.stepN ?_ _) | (with_reducible refine Ext.stepD ?_) | (with_reducible refine Ext.stepA ?_ _)))))))).mono ?_; rw [HV.out]; rintro e w' ⟨rfl, rfl⟩)
    all_goals gi_wp2
    all_goals (try go_bits)
    all_goals
      clear a1 a2 a3 a4 HRD hmx
      have st := fun (W1 : World) (X : Ext W W1) => HI.out.step (by omega) (by omega) (by omega) (by omega) (by omega) (by omega) x X HV.out
      first | exact st _ (Ext.refl _) | exact st _ (Ext.drew _) | exact st _ (Ext.drewN _ _) | exact st _ ((Ext.drew _).trans (Ext.drew _))
  case done =>
    rintro D ys W hD rfl hI hK
    have a2 := hI.ts
    gi_wp2
    refine ⟨by simp, .inl ⟨_, _, rfl, run_takeDeferred hK, ?_⟩⟩
    have hDg : w.heap.size + 1 < D := by omega
    have hgb := (grownBy_putObj' W D (Obj.deferred none)).block (w.heap.size + 1) hI.r.lt (fun e => by cases e; omega)
    have hrow := hI.r.of_block hgb
    have hExt : Ext w (W.putObj D (Obj.deferred none)) := hI.b.grown (grownBy_putObj' W D _) (Below.size hI.b) (fun k e => by cases e; omega)
    exact ⟨_, results_tmp rfl _ _ _, some ⟨w.heap.size + 1, 0, none⟩, n, rfl, own_made (by rw [ints_length, tellZ_length]; exact hz) (by omega) hrow (fun i hi => by
      rw [ints_get _ i (by rw [tellZ_length]; omega), contF_all n _ i hi]
      have := tellZ_get leastI zs long i (by omega)
      unfold getI at this
      rw [this]), hExt⟩
  case stop =>
    rintro D c pre W _ _ h _
    exact h.elim
end Go.Proofs.Ytfbapbgiegploaa
/- The list of the greatest last ones of each index, by the program. -/
namespace Go.Proofs.Ytfbapbgiegploaa
open Go.ChangeShapes Go.WideShapes Go.ChangeAt Go.RowKit Go.Shelf
set_option linter.unusedVariables false
attribute [local go_sem] Oper.semAt_some
theorem c_slices_Max (b off n cap : Nat) (zs : List Int) (w : World) (h1 : 1 ≤ n) (hn : n ≤ 1048576) (h : Reads w (some ⟨b, off, none⟩) n (ints zs)) :
    Calls Try.prog 105 #[.slice (some ⟨b, off, none⟩) n cap] w fun e w' => e = .returned (.int .i64 (mostI zs)) ∧ w = w' := by
  obtain ⟨hz, hr⟩ := h.int
  have HZ := Lib.hid hz
  have hn' : (n : Int) ≤ 1048576 := by omega
  rcases hr with h0 | ⟨b', off', he, hc⟩
  · omega
  cases he
  have HC := Lib.hid hc
  have HS := Lib.hid (show ∀ k, k < n → (zs.take (k + 1)).foldl maxI (getI zs 0) = maxI ((zs.take k).foldl maxI (getI zs 0)) (getI zs k) from fun k hk => fold_take zs _ k (by omega))
  obtain ⟨x0, hx0⟩ : ∃ x, zs[0]?.getD 0 = x := ⟨_, rfl⟩
  have c0 := hc 0 (by omega)
  rw [hx0, Nat.add_zero] at c0
  have HX0 := Lib.hid (show getI zs 0 = x0 from hx0)
  have e1 : ¬ (n : Int) < 1 := by omega
  have e2 : (0 : Int) < (n : Int) := by omega
  clear hz hc hx0 h
  go_enter Try.func105, Try.ntmps105
  go_wp2
  go_loopw [3, 4] (fun m i wr => ∃ k : Nat, 1 ≤ k ∧ k ≤ n ∧ i = .int .i64 k ∧ m = .int .i64 ((zs.take k).foldl maxI (getI zs 0)) ∧ w = wr) (fun _ i _ => n - (intOf i).toNat)
  case atStart => exact ⟨1, Nat.le_refl _, h1, rfl, by rw [HS.out 0 (by omega), List.take_zero, HX0.out]; show _ = Value.int .i64 (maxI x0 x0); rw [maxI_ok.i], rfl⟩
  case round =>
    obtain ⟨k, hk1, hk, rfl, rfl, rfl⟩ := hrel
    by_cases hlt : k < n
    · have hltI : (k : Int) < (n : Int) := by omega
      obtain ⟨x, hx⟩ : ∃ x, zs[k]?.getD 0 = x := ⟨_, rfl⟩
      have hcell := HC.out k hlt
      rw [hx] at hcell
      have HN := Lib.hid (HS.out k hlt)
      have HX := Lib.hid (show getI zs k = x from hx)
      obtain ⟨y, hy⟩ : ∃ y, (zs.take k).foldl maxI (getI zs 0) = y := ⟨_, rfl⟩
      have HY := Lib.hid hy
      rw [hy]
      clear hx hy
      by_cases hxy : y < x
      · have HM := Lib.hid (show maxI y x = x from if_pos hxy)
        have hmm : max y x = x := by omega
        go_wp2
        go_roundw
        case rel => exact ⟨k + 1, by omega, by omega, by go_num, by rw [HN.out, HX.out, HY.out, HM.out], by first | rfl | trivial⟩
        case measure => simp [intOf]; omega
      · have HM := Lib.hid (show maxI y x = y from if_neg hxy)
        have hmm : max y x = y := by omega
        go_wp2
        go_roundw
        case rel => exact ⟨k + 1, by omega, by omega, by go_num, by rw [HN.out, HX.out, HY.out, HM.out], by first | rfl | trivial⟩
        case measure => simp [intOf]; omega
    · have hkn : k = n := by omega
      have HK := Lib.hid hkn
      have hltI : ¬ (k : Int) < (n : Int) := by omega
      obtain ⟨y, hy⟩ : ∃ y, (zs.take k).foldl maxI (getI zs 0) = y := ⟨_, rfl⟩
      have HY := Lib.hid (show mostI zs = y by rw [← hy, hkn, ← HZ.out, List.take_length]; rfl)
      rw [hy]
      clear hkn hy
      go_wp2
      go_ret
      exact ⟨by rw [HY.out]; rfl, rfl⟩
set_option maxRecDepth 100000 in
set_option maxHeartbeats 4000000 in
theorem c_tellLast_Max (b off n cap long : Nat) (zs : List Int) (w : World) (h1 : 1 ≤ n) (hn : n ≤ 128) (hnc : n ≤ cap) (hl1 : 1 ≤ long) (hl2 : long ≤ 128) (h : Reads w (some ⟨b, off, none⟩) n (ints zs)) :
    Calls Try.prog 210 #[.slice (some ⟨b, off, none⟩) n cap, .int .i64 (long : Int), .func (.func 105) #[] #[]] w (RetS 2 n (ints (tellZ mostI zs long)) w) := by
  obtain ⟨hz, hr⟩ := h.int
  have hcs : ∀ i, i < n → w.cell? ⟨b, off + i, none⟩ = some (.int .i64 (zs[i]?.getD 0)) := by
    rcases hr with h0 | ⟨b', off', he, hc⟩
    · omega
    · cases he; exact hc
  refine (callsIn_wide (n := 6)).1 ?_
  refine callsIn_of_wp_marks Try.func210 rfl trivial ?_ rfl
  simp only [Try.ntmps210, List.size_toArray, List.length_cons, List.length_nil, Nat.reduceAdd, Nat.reduceSub, Array.replicate_succ, Array.replicate_zero, List.push_toArray, List.append_toArray, List.nil_append, List.cons_append]
  have hmk := run_make_row' (P := Try.prog) 25 2 (.int .i64 0) 8 Try.underlying25 info_i64 rfl .i64 .i64 n (by omega) (by omega)
  gi_wp2_with (refine ⟨trivial, ?_⟩; gi_at_call 270; refine (callsIn_wide.2 (c_lastOnes _ _ _ _ _)).mono ?_; rintro e w' ⟨rfl, rfl⟩)
  have BA := (((((Box.alloc w #[.func (.func 105) #[] #[]] 74).past (.cells (madeCells #[.int .i64 0] n) 2)).past (.cells #[.slice (some ⟨w.heap.size + 1, 0, none⟩) n n] 25)).past (.cells #[.slice (some ⟨b, off, none⟩) n cap] 25)).past (.cells #[.int .i64 (long : Int)] 2))
  have BT := (((Box.alloc_at ((w.alloc (.cells #[.func (.func 105) #[] #[]] 74)).alloc (.cells (madeCells #[.int .i64 0] n) 2)) #[.slice (some ⟨w.heap.size + 1, 0, none⟩) n n] 25 (b := w.heap.size + 1 + 1) (by simp)).past (.cells #[.slice (some ⟨b, off, none⟩) n cap] 25)).past (.cells #[.int .i64 (long : Int)] 2))
  have BS := ((Box.alloc_at (((w.alloc (.cells #[.func (.func 105) #[] #[]] 74)).alloc (.cells (madeCells #[.int .i64 0] n) 2)).alloc (.cells #[.slice (some ⟨w.heap.size + 1, 0, none⟩) n n] 25)) #[.slice (some ⟨b, off, none⟩) n cap] 25 (b := w.heap.size + 1 + 1 + 1) (by simp)).past (.cells #[.int .i64 (long : Int)] 2))
  have BL := (Box.alloc_at ((((w.alloc (.cells #[.func (.func 105) #[] #[]] 74)).alloc (.cells (madeCells #[.int .i64 0] n) 2)).alloc (.cells #[.slice (some ⟨w.heap.size + 1, 0, none⟩) n n] 25)).alloc (.cells #[.slice (some ⟨b, off, none⟩) n cap] 25)) #[.int .i64 (long : Int)] 2 (b := w.heap.size + 1 + 1 + 1 + 1) (by simp))
  have RW := ((((World.rowIs_made (w.alloc (.cells #[.func (.func 105) #[] #[]] 74)) (.int .i64 0) n 2).alloc (.cells #[.slice (some ⟨w.heap.size + 1, 0, none⟩) n n] 25)).alloc (.cells #[.slice (some ⟨b, off, none⟩) n cap] 25)).alloc (.cells #[.int .i64 (long : Int)] 2))
  rw [show (w.alloc (.cells #[.func (.func 105) #[] #[]] 74)).heap.size = w.heap.size + 1 by simp] at RW
  have X5 : Ext w (((((w.alloc (.cells #[.func (.func 105) #[] #[]] 74)).alloc (.cells (madeCells #[.int .i64 0] n) 2)).alloc (.cells #[.slice (some ⟨w.heap.size + 1, 0, none⟩) n n] 25)).alloc (.cells #[.slice (some ⟨b, off, none⟩) n cap] 25)).alloc (.cells #[.int .i64 (long : Int)] 2)) := by (repeat (first | assumption | exact Ext.refl _ | (with_reducible refine Ext.stepS ?_ (by first | exact Nat.le_refl _ | (simp; done) | (simp; omega)) _) | (with_reducible refine Ext.stepN ?_ _) | (with_reducible refine Ext.stepD ?_) | (with_reducible refine Ext.stepA ?_ _)))
  obtain ⟨W5, hW5⟩ : ∃ W5, (((((w.alloc (.cells #[.func (.func 105) #[] #[]] 74)).alloc (.cells (madeCells #[.int .i64 0] n) 2)).alloc (.cells #[.slice (some ⟨w.heap.size + 1, 0, none⟩) n n] 25)).alloc (.cells #[.slice (some ⟨b, off, none⟩) n cap] 25)).alloc (.cells #[.int .i64 (long : Int)] 2)) = W5 := ⟨_, rfl⟩
  have hs5 : W5.heap.size = w.heap.size + 5 := by rw [← hW5]; simp
  rw [hW5] at BA BT BS BL RW X5
  rw [hW5]
  refine wpIn_rangeFunc_ownG rfl (by omega) (gf := 295) (lb := #[.pointer (some ⟨w.heap.size + 1 + 1 + 1, 0, none⟩), .pointer (some ⟨w.heap.size + 1 + 1 + 1 + 1, 0, none⟩)]) rfl trivial (enters_of Try.func295 (by kernel_rfl) rfl)
    (lastOnes_stops Fence.wide 5 trivial rfl (by omega) (w.heap.size + 1 + 1 + 1) (w.heap.size + 1 + 1 + 1 + 1) W5.heap.size (w.heap.size + 1) b off n cap long hn hnc hl1 hl2 (by omega) (by omega) (by omega) (by omega) W5 (BS.cell 0) (BL.cell 0))
    (fun h k => h.trans k) (fun W l o o' hl h h1 h2 => kpG_b W l o o' hl h h1 h2) (Below.refl _ _) (fun _ => rfl)
    (LorI w W5.heap.size w.heap.size (w.heap.size + 1 + 1) (w.heap.size + 1) 2 (.func (.func 105) #[] #[]) n (fun i => mostI (lastZ zs long i))) (fun _ _ _ => False)
    (LorI.ownFrom (by omega) (by omega) (by omega) (by omega)) (fun _ _ _ _ _ hs _ _ => hs)
    ⟨Nat.le_refl _, BA.cell 0, BT.cell 0, RW.congr fun i hi => by unfold contF; rfl, X5⟩
    (fun x => { tmps := #[.slice (some ⟨b, off, none⟩) n cap, .int .i64 (long : Int), .func (.func 105) #[] #[], undef, undef, .pointer (some ⟨w.heap.size, 0, none⟩), .slice none 0 0, .pointer (some ⟨w.heap.size + 1 + 1, 0, none⟩), .int .i64 (x.1 : Int), lastV b off long x.1, .slice (some ⟨b, off, none⟩) n cap, .int .i64 (n : Int), .slice (some ⟨w.heap.size + 1, 0, none⟩) n n, .slice (some ⟨b, off, none⟩) n cap, .int .i64 (long : Int), .func (.func 295) #[] #[.pointer (some ⟨w.heap.size + 1 + 1 + 1, 0, none⟩), .pointer (some ⟨w.heap.size + 1 + 1 + 1 + 1, 0, none⟩)], .int .i64 (x.1 : Int), lastV b off long x.1, undef, undef, undef, undef, undef, undef, undef], defers := [] }) ?assign ?body ?done ?stop
  case assign =>
    intro l x W K hK
    unfold lastE
    gi_wp2
    exact hK
  case body =>
    rintro l pre x W hI _
    have a1 := hI.a
    have a2 := hI.ts
    have a3 := hI.r.cell x.2
    have a4 := hI.r.frozen x.1
    have hxn : (x.1 : Int) < (n : Int) := by have := x.2; omega
    have hx0 : (0 : Int) ≤ (x.1 : Int) := by omega
    have HRD := Lib.hid (reads_last hz (fun i hi => (Ext.some hI.b (hcs i hi))) long x.1 x.2)
    obtain ⟨v, hv⟩ : ∃ v, mostI (lastZ zs long x.1) = v := ⟨_, rfl⟩
    have HV := Lib.hid hv
    have HI := Lib.hid hI
    have hx3 : x.1 < n := x.2
    have hmx : Try.prog.follows .mixedOrders = true := by kernel_rfl
    unfold lastV
    gi_wp2
    gi_region_with_o (refine ⟨trivial, ?_⟩; gi_at_call 105; refine (CallsIn.inRound l (callsIn_wide.2 (c_slices_Max _ _ _ _ _ _ (by omega) (by omega) (HRD.out.on (by (repeat (first | assumption | exact Ext.refl _ | (with_reducible refine Ext.stepS ?_ (by first | exact Nat.le_refl _ | (simp; done) | (simp; omega)) _) | (with_reducible refine Ext.stepN ?_ _) | (with_reducible refine Ext.stepD ?_) | (with_reducible refine Ext.stepA ?_ _)))))))).mono ?_; rw [HV.out]; rintro e w' ⟨rfl, rfl⟩)
    all_goals gi_wp2
    all_goals (try go_bits)
    all_goals
      clear a1 a2 a3 a4 HRD hmx
      have st := fun (W1 : World) (X : Ext W W1) => HI.out.step (by omega) (by omega) (by omega) (by omega) (by omega) (by omega) x X HV.out
      first | exact st _ (Ext.refl _) | exact st _ (Ext.drew _) | exact st _ (Ext.drewN _ _) | exact st _ ((Ext.drew _).trans (Ext.drew _))
  case done =>
    rintro D ys W hD rfl hI hK
    have a2 := hI.ts
    gi_wp2
    refine ⟨by simp, .inl ⟨_, _, rfl, run_takeDeferred hK, ?_⟩⟩
    have hDg : w.heap.size + 1 < D := by omega
    have hgb := (grownBy_putObj' W D (Obj.deferred none)).block (w.heap.size + 1) hI.r.lt (fun e => by cases e; omega)
    have hrow := hI.r.of_block hgb
    have hExt : Ext w (W.putObj D (Obj.deferred none)) := hI.b.grown (grownBy_putObj' W D _) (Below.size hI.b) (fun k e => by cases e; omega)
    exact ⟨_, results_tmp rfl _ _ _, some ⟨w.heap.size + 1, 0, none⟩, n, rfl, own_made (by rw [ints_length, tellZ_length]; exact hz) (by omega) hrow (fun i hi => by
      rw [ints_get _ i (by rw [tellZ_length]; omega), contF_all n _ i hi]
      have := tellZ_get mostI zs long i (by omega)
      unfold getI at this
      rw [this]), hExt⟩
  case stop =>
    rintro D c pre W _ _ h _
    exact h.elim
end Go.Proofs.Ytfbapbgiegploaa
/- Least and greatest last ones by the program. -/
namespace Go.Proofs.Ytfbapbgiegploaa
open Go.ChangeShapes Go.WideShapes Go.ChangeAt Go.RowKit
set_option linter.unusedVariables false
theorem readB_1 {zs : List Int} {long : Int} (h : inB 1 (zs.length : Int) 128 = false) : readB zs long = false := by
  unfold inB at h
  have h' := of_decide_eq_false h
  unfold readB; rw [decide_eq_false (by omega)]; rfl
theorem readB_2 {zs : List Int} {long : Int} (h : manyB 1000000 zs = false) : readB zs long = false := by unfold readB; rw [h]; simp
theorem readB_3 {zs : List Int} {long : Int} (h : inB 1 long 128 = false) : readB zs long = false := by
  unfold readB; rw [show decide (1 ≤ long ∧ long ≤ 128) = false from h]; simp
theorem readB_y {zs : List Int} {long : Int} (h1 : inB 1 (zs.length : Int) 128 = true) (h2 : manyB 1000000 zs = true) (h3 : inB 1 long 128 = true) : readB zs long = true := by
  have h' := inB_is.1 h1
  unfold readB; rw [decide_eq_true (by omega), h2, show decide (1 ≤ long ∧ long ≤ 128) = true from h3]; rfl
theorem retB7 {a b : Bool} (h : a = b) : Ending.returned (.bool a) = Ending.returned (.bool b) := by rw [h]
theorem c_areWithin_q (a : Option Addr) (n cap : Nat) (zs : List Int) (m : Int) (w : World) {r : Bool} (m0 : 0 ≤ m) (m1 : m ≤ 1000000000000) (hm : n ≤ maxLen) (hr : manyB m zs = r) (h : Reads w a n (ints zs)) :
    Calls Try.prog 209 #[.slice a n cap, .int .i64 m] w fun e w' => e = .returned (.bool r) ∧ Ext w w' :=
  (c_impl_areWithin a n cap zs m w m0 m1 hm hr h).mono (by
    rintro e w' ⟨rfl, hw⟩
    refine ⟨rfl, ?_⟩
    first | (subst hw; exact Ext.refl _) | (rw [hw]; exact Ext.refl _) | (rw [← hw]; exact Ext.refl _) | (obtain ⟨q, rfl⟩ := hw; exact Ext.drewN _ _))
theorem c_impl_isStreamSize_s (n : Int) (w : World) {b : Bool} (h : inB 1 n 128 = b) : Calls Try.prog 111 #[.int .i64 n] w fun e w' => e = .returned (.bool b) ∧ w = w' := by
  unfold inB at h
  by_cases h1 : 1 ≤ n
  · by_cases h2 : n ≤ 128
    · have H := Lib.hid (show b = true by rw [← h]; exact decide_eq_true ⟨h1, h2⟩)
      clear h
      go_enter Try.func111, Try.ntmps111
      go_wp2
      go_ret
      exact ⟨retB7 H.out.symm, rfl⟩
    · have H := Lib.hid (show b = false by rw [← h]; exact decide_eq_false (by omega))
      have h3 : 128 < n := by omega
      clear h
      go_enter Try.func111, Try.ntmps111
      go_wp2
      go_ret
      exact ⟨retB7 H.out.symm, rfl⟩
  · have H := Lib.hid (show b = false by rw [← h]; exact decide_eq_false (by omega))
    have h3 : n < 1 := by omega
    clear h
    go_enter Try.func111, Try.ntmps111
    go_wp2
    go_ret
    exact ⟨retB7 H.out.symm, rfl⟩
set_option maxHeartbeats 2000000 in
theorem c_tellReadings_Min (a : Option Addr) (n cap : Nat) (zs : List Int) (long : Int) (w : World) {rz : List Int} {rb : Bool} (hv : tellR leastI zs long = (rz, rb)) (hm : n ≤ 1048576) (h : Reads w a n (ints zs)) (hnc : n ≤ cap) :
    Calls Try.prog 103 #[.slice a n cap, .int .i64 long, .func (.func 104) #[] #[]] w (RetSB 2 rz.length (ints rz) rb w) := by
  have hz := h.int.1
  have H := Lib.hid h
  have HM := Lib.hid (show n ≤ maxLen by unfold maxLen; omega)
  cases h1 : inB 1 (n : Int) 128
  · rw [tellR_no (readB_1 (by rw [hz]; exact h1))] at hv
    cases hv
    have H1 := Lib.hid h1
    clear h1 h hm hz
    go_enter Try.func103, Try.ntmps103
    go_wp2_with fail
    refine (c_impl_isStreamSize_s _ _ H1.out).mono ?_; rintro e w' ⟨rfl, rfl⟩
    go_wp2
    go_ret2
    exact RetSB.nil _ _
  cases h2 : manyB 1000000 zs
  · rw [tellR_no (readB_2 h2)] at hv
    cases hv
    have H1 := Lib.hid h1
    have H2 := Lib.hid h2
    clear h1 h2 h hm hz
    go_enter Try.func103, Try.ntmps103
    go_wp2_with fail
    refine (c_impl_isStreamSize_s _ _ H1.out).mono ?_; rintro e w' ⟨rfl, rfl⟩
    go_wp2_with fail
    refine (c_areWithin_q _ _ _ zs 1000000 _ (by omega) (by omega) HM.out H2.out H.out).mono ?_; rintro e w' ⟨rfl, x'⟩
    have X := Lib.hid x'
    clear x'
    go_wp2
    go_ret2
    exact ⟨none, 0, rfl, Own.nil _ _ _ _, X.out⟩
  cases h3 : inB 1 long 128
  · rw [tellR_no (readB_3 h3)] at hv
    cases hv
    have H1 := Lib.hid h1
    have H2 := Lib.hid h2
    have H3 := Lib.hid h3
    clear h1 h2 h3 h hm hz
    go_enter Try.func103, Try.ntmps103
    go_wp2_with fail
    refine (c_impl_isStreamSize_s _ _ H1.out).mono ?_; rintro e w' ⟨rfl, rfl⟩
    go_wp2_with fail
    refine (c_areWithin_q _ _ _ zs 1000000 _ (by omega) (by omega) HM.out H2.out H.out).mono ?_; rintro e u1 ⟨rfl, x'⟩
    have X := Lib.hid x'
    clear x'
    go_wp2_with fail
    refine (c_impl_isStreamSize_s _ _ H3.out).mono ?_; rintro e w' ⟨rfl, rfl⟩
    go_wp2
    go_ret2
    exact ⟨none, 0, rfl, Own.nil _ _ _ _, X.out⟩
  · rw [tellR_yes (readB_y (by rw [hz]; exact h1) h2 h3)] at hv
    cases hv
    obtain ⟨b1, b2⟩ := inB_is.1 h1
    obtain ⟨b3, b4⟩ := inB_is.1 h3
    obtain ⟨L, hL⟩ : ∃ L : Nat, long.toNat = L := ⟨_, rfl⟩
    obtain rfl : long = (L : Int) := by omega
    rw [hL]
    obtain ⟨b, off, rfl⟩ : ∃ b off, a = some ⟨b, off, none⟩ := by
      rcases h.2 with h0 | ⟨b', off', rfl, _⟩
      · omega
      · exact ⟨_, _, rfl⟩
    have H1 := Lib.hid h1
    have H2 := Lib.hid h2
    have H3 := Lib.hid h3
    have HTL := Lib.hid (show (tellZ leastI zs L).length = n by rw [tellZ_length]; exact hz)
    clear h1 h2 h3 h hm hz hL
    go_enter Try.func103, Try.ntmps103
    go_wp2_with fail
    refine (c_impl_isStreamSize_s _ _ H1.out).mono ?_; rintro e w' ⟨rfl, rfl⟩
    go_wp2_with fail
    refine (c_areWithin_q _ _ _ zs 1000000 _ (by omega) (by omega) HM.out H2.out H.out).mono ?_; rintro e u1 ⟨rfl, x'⟩
    have X := Lib.hid x'
    clear x'
    go_wp2_with fail
    refine (c_impl_isStreamSize_s _ _ H3.out).mono ?_; rintro e w' ⟨rfl, rfl⟩
    go_wp2_with fail
    refine (c_tellLast_Min b off n cap L zs _ (by omega) (by omega) hnc (by omega) (by omega) (H.out.on X.out)).mono ?_; rintro e u2 ⟨a2, c2, rfl, o2, x2⟩
    have O2 := Lib.hid o2
    have X2 := Lib.hid (X.out.trans x2)
    have SZ := Lib.hid X.out.size
    clear o2 x2
    go_wp2
    go_ret2
    exact ⟨a2, c2, by first | (rw [HTL.out]; done) | (rw [HTL.out]; rfl), by rw [HTL.out]; exact O2.out.wide SZ.out (Nat.le_refl _), X2.out⟩
theorem c_impl_LeastOfWindow (a : Option Addr) (n cap : Nat) (zs : List Int) (long : Int) (w : World) {rz : List Int} {rb : Bool} (hv : tellR leastI zs long = (rz, rb)) (hm : n ≤ 1048576) (h : Reads w a n (ints zs)) (hnc : n ≤ cap) :
    Calls Try.prog 18 #[.slice a n cap, .int .i64 long] w (RetSB 2 rz.length (ints rz) rb w) := by
  have H := Lib.hid h
  have HV := Lib.hid hv
  clear h hv
  go_enter Try.func18, Try.ntmps18
  go_wp2_with fail
  refine (c_tellReadings_Min _ _ _ zs long _ HV.out hm H.out hnc).mono ?_; rintro e u1 ⟨a1, c1, rfl, o1, x1⟩
  have O1 := Lib.hid o1
  have X1 := Lib.hid x1
  clear o1 x1
  go_wp2
  go_ret2
  exact ⟨_, _, rfl, O1.out, X1.out⟩
set_option maxHeartbeats 2000000 in
theorem c_tellReadings_Max (a : Option Addr) (n cap : Nat) (zs : List Int) (long : Int) (w : World) {rz : List Int} {rb : Bool} (hv : tellR mostI zs long = (rz, rb)) (hm : n ≤ 1048576) (h : Reads w a n (ints zs)) (hnc : n ≤ cap) :
    Calls Try.prog 103 #[.slice a n cap, .int .i64 long, .func (.func 105) #[] #[]] w (RetSB 2 rz.length (ints rz) rb w) := by
  have hz := h.int.1
  have H := Lib.hid h
  have HM := Lib.hid (show n ≤ maxLen by unfold maxLen; omega)
  cases h1 : inB 1 (n : Int) 128
  · rw [tellR_no (readB_1 (by rw [hz]; exact h1))] at hv
    cases hv
    have H1 := Lib.hid h1
    clear h1 h hm hz
    go_enter Try.func103, Try.ntmps103
    go_wp2_with fail
    refine (c_impl_isStreamSize_s _ _ H1.out).mono ?_; rintro e w' ⟨rfl, rfl⟩
    go_wp2
    go_ret2
    exact RetSB.nil _ _
  cases h2 : manyB 1000000 zs
  · rw [tellR_no (readB_2 h2)] at hv
    cases hv
    have H1 := Lib.hid h1
    have H2 := Lib.hid h2
    clear h1 h2 h hm hz
    go_enter Try.func103, Try.ntmps103
    go_wp2_with fail
    refine (c_impl_isStreamSize_s _ _ H1.out).mono ?_; rintro e w' ⟨rfl, rfl⟩
    go_wp2_with fail
    refine (c_areWithin_q _ _ _ zs 1000000 _ (by omega) (by omega) HM.out H2.out H.out).mono ?_; rintro e w' ⟨rfl, x'⟩
    have X := Lib.hid x'
    clear x'
    go_wp2
    go_ret2
    exact ⟨none, 0, rfl, Own.nil _ _ _ _, X.out⟩
  cases h3 : inB 1 long 128
  · rw [tellR_no (readB_3 h3)] at hv
    cases hv
    have H1 := Lib.hid h1
    have H2 := Lib.hid h2
    have H3 := Lib.hid h3
    clear h1 h2 h3 h hm hz
    go_enter Try.func103, Try.ntmps103
    go_wp2_with fail
    refine (c_impl_isStreamSize_s _ _ H1.out).mono ?_; rintro e w' ⟨rfl, rfl⟩
    go_wp2_with fail
    refine (c_areWithin_q _ _ _ zs 1000000 _ (by omega) (by omega) HM.out H2.out H.out).mono ?_; rintro e u1 ⟨rfl, x'⟩
    have X := Lib.hid x'
    clear x'
    go_wp2_with fail
    refine (c_impl_isStreamSize_s _ _ H3.out).mono ?_; rintro e w' ⟨rfl, rfl⟩
    go_wp2
    go_ret2
    exact ⟨none, 0, rfl, Own.nil _ _ _ _, X.out⟩
  · rw [tellR_yes (readB_y (by rw [hz]; exact h1) h2 h3)] at hv
    cases hv
    obtain ⟨b1, b2⟩ := inB_is.1 h1
    obtain ⟨b3, b4⟩ := inB_is.1 h3
    obtain ⟨L, hL⟩ : ∃ L : Nat, long.toNat = L := ⟨_, rfl⟩
    obtain rfl : long = (L : Int) := by omega
    rw [hL]
    obtain ⟨b, off, rfl⟩ : ∃ b off, a = some ⟨b, off, none⟩ := by
      rcases h.2 with h0 | ⟨b', off', rfl, _⟩
      · omega
      · exact ⟨_, _, rfl⟩
    have H1 := Lib.hid h1
    have H2 := Lib.hid h2
    have H3 := Lib.hid h3
    have HTL := Lib.hid (show (tellZ mostI zs L).length = n by rw [tellZ_length]; exact hz)
    clear h1 h2 h3 h hm hz hL
    go_enter Try.func103, Try.ntmps103
    go_wp2_with fail
    refine (c_impl_isStreamSize_s _ _ H1.out).mono ?_; rintro e w' ⟨rfl, rfl⟩
    go_wp2_with fail
    refine (c_areWithin_q _ _ _ zs 1000000 _ (by omega) (by omega) HM.out H2.out H.out).mono ?_; rintro e u1 ⟨rfl, x'⟩
    have X := Lib.hid x'
    clear x'
    go_wp2_with fail
    refine (c_impl_isStreamSize_s _ _ H3.out).mono ?_; rintro e w' ⟨rfl, rfl⟩
    go_wp2_with fail
    refine (c_tellLast_Max b off n cap L zs _ (by omega) (by omega) hnc (by omega) (by omega) (H.out.on X.out)).mono ?_; rintro e u2 ⟨a2, c2, rfl, o2, x2⟩
    have O2 := Lib.hid o2
    have X2 := Lib.hid (X.out.trans x2)
    have SZ := Lib.hid X.out.size
    clear o2 x2
    go_wp2
    go_ret2
    exact ⟨a2, c2, by first | (rw [HTL.out]; done) | (rw [HTL.out]; rfl), by rw [HTL.out]; exact O2.out.wide SZ.out (Nat.le_refl _), X2.out⟩
theorem c_impl_GreatestOfWindow (a : Option Addr) (n cap : Nat) (zs : List Int) (long : Int) (w : World) {rz : List Int} {rb : Bool} (hv : tellR mostI zs long = (rz, rb)) (hm : n ≤ 1048576) (h : Reads w a n (ints zs)) (hnc : n ≤ cap) :
    Calls Try.prog 19 #[.slice a n cap, .int .i64 long] w (RetSB 2 rz.length (ints rz) rb w) := by
  have H := Lib.hid h
  have HV := Lib.hid hv
  clear h hv
  go_enter Try.func19, Try.ntmps19
  go_wp2_with fail
  refine (c_tellReadings_Max _ _ _ zs long _ HV.out hm H.out hnc).mono ?_; rintro e u1 ⟨a1, c1, rfl, o1, x1⟩
  have O1 := Lib.hid o1
  have X1 := Lib.hid x1
  clear o1 x1
  go_wp2
  go_ret2
  exact ⟨_, _, rfl, O1.out, X1.out⟩
end Go.Proofs.Ytfbapbgiegploaa
