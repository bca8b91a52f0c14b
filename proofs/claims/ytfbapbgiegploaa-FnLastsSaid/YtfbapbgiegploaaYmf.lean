/- The list of the middle last ones of each index, by the program. -/
import Derived.Test.YtfbapbgiegploaaYma
import Derived.Test.YtfbapbgiegploaaMdk
import Derived.Test.YtfbapbgiegploaaYme
namespace Go.Proofs.Ytfbapbgiegploaa
open Go.ChangeShapes Go.WideShapes Go.ChangeAt Go.RowKit Go.Shelf
set_option linter.unusedVariables false
attribute [local go_sem] Oper.semAt_some
set_option maxRecDepth 100000 in
set_option maxHeartbeats 4000000 in
theorem c_tellLast_Mid (b off n cap long : Nat) (zs : List Int) (w : World) (h1 : 1 ≤ n) (hn : n ≤ 128) (hnc : n ≤ cap) (hl1 : 1 ≤ long) (hl2 : long ≤ 128) (h : Reads w (some ⟨b, off, none⟩) n (ints zs)) :
    Calls Try.prog 210 #[.slice (some ⟨b, off, none⟩) n cap, .int .i64 (long : Int), .func (.func 106) #[] #[]] w (RetS 2 n (ints (tellZ midI zs long)) w) := by
  obtain ⟨hz, hr⟩ := h.int
  have hcs : ∀ i, i < n → w.cell? ⟨b, off + i, none⟩ = some (.int .i64 (zs[i]?.getD 0)) := by
    rcases hr with h0 | ⟨b', off', he, hc⟩
    · omega
    · cases he; exact hc
  refine (callsIn_wide (n := 6)).1 ?_
  refine callsIn_of_wp_marks Try.func210 rfl trivial ?_ rfl
  simp only [Try.ntmps210, List.size_toArray, List.length_cons, List.length_nil, Nat.reduceAdd, Nat.reduceSub, Array.replicate_succ, Array.replicate_zero, List.push_toArray, List.append_toArray, List.nil_append, List.cons_append]
  have hmk := run_make_row' (P := Try.prog) 25 2 (.int .i64 0) 8 Try.underlying25 info_i64 rfl .i64 .i64 n (by omega) (by omega)
  gi_wp2_with (refine ⟨trivial, ?_⟩; gi_at_call 270; refine (callsIn_wide.2 (c_lastOnes _ _ _ _ _)).mono ?_; rintro e w' ⟨rfl, rfl⟩)
  have BA := (((((Box.alloc w #[.func (.func 106) #[] #[]] 74).past (.cells (madeCells #[.int .i64 0] n) 2)).past (.cells #[.slice (some ⟨w.heap.size + 1, 0, none⟩) n n] 25)).past (.cells #[.slice (some ⟨b, off, none⟩) n cap] 25)).past (.cells #[.int .i64 (long : Int)] 2))
  have BT := (((Box.alloc_at ((w.alloc (.cells #[.func (.func 106) #[] #[]] 74)).alloc (.cells (madeCells #[.int .i64 0] n) 2)) #[.slice (some ⟨w.heap.size + 1, 0, none⟩) n n] 25 (b := w.heap.size + 1 + 1) (by simp)).past (.cells #[.slice (some ⟨b, off, none⟩) n cap] 25)).past (.cells #[.int .i64 (long : Int)] 2))
  have BS := ((Box.alloc_at (((w.alloc (.cells #[.func (.func 106) #[] #[]] 74)).alloc (.cells (madeCells #[.int .i64 0] n) 2)).alloc (.cells #[.slice (some ⟨w.heap.size + 1, 0, none⟩) n n] 25)) #[.slice (some ⟨b, off, none⟩) n cap] 25 (b := w.heap.size + 1 + 1 + 1) (by simp)).past (.cells #[.int .i64 (long : Int)] 2))
  have BL := (Box.alloc_at ((((w.alloc (.cells #[.func (.func 106) #[] #[]] 74)).alloc (.cells (madeCells #[.int .i64 0] n) 2)).alloc (.cells #[.slice (some ⟨w.heap.size + 1, 0, none⟩) n n] 25)).alloc (.cells #[.slice (some ⟨b, off, none⟩) n cap] 25)) #[.int .i64 (long : Int)] 2 (b := w.heap.size + 1 + 1 + 1 + 1) (by simp))
  have RW := ((((World.rowIs_made (w.alloc (.cells #[.func (.func 106) #[] #[]] 74)) (.int .i64 0) n 2).alloc (.cells #[.slice (some ⟨w.heap.size + 1, 0, none⟩) n n] 25)).alloc (.cells #[.slice (some ⟨b, off, none⟩) n cap] 25)).alloc (.cells #[.int .i64 (long : Int)] 2))
  rw [show (w.alloc (.cells #[.func (.func 106) #[] #[]] 74)).heap.size = w.heap.size + 1 by simp] at RW
  have X5 : Ext w (((((w.alloc (.cells #[.func (.func 106) #[] #[]] 74)).alloc (.cells (madeCells #[.int .i64 0] n) 2)).alloc (.cells #[.slice (some ⟨w.heap.size + 1, 0, none⟩) n n] 25)).alloc (.cells #[.slice (some ⟨b, off, none⟩) n cap] 25)).alloc (.cells #[.int .i64 (long : Int)] 2)) := by (repeat (first | assumption | exact Ext.refl _ | (with_reducible refine Ext.stepS ?_ (by first | exact Nat.le_refl _ | (simp; done) | (simp; omega)) _) | (with_reducible refine Ext.stepN ?_ _) | (with_reducible refine Ext.stepD ?_) | (with_reducible refine Ext.stepA ?_ _)))
  obtain ⟨W5, hW5⟩ : ∃ W5, (((((w.alloc (.cells #[.func (.func 106) #[] #[]] 74)).alloc (.cells (madeCells #[.int .i64 0] n) 2)).alloc (.cells #[.slice (some ⟨w.heap.size + 1, 0, none⟩) n n] 25)).alloc (.cells #[.slice (some ⟨b, off, none⟩) n cap] 25)).alloc (.cells #[.int .i64 (long : Int)] 2)) = W5 := ⟨_, rfl⟩
  have hs5 : W5.heap.size = w.heap.size + 5 := by rw [← hW5]; simp
  rw [hW5] at BA BT BS BL RW X5
  rw [hW5]
  refine wpIn_rangeFunc_ownG rfl (by omega) (gf := 295) (lb := #[.pointer (some ⟨w.heap.size + 1 + 1 + 1, 0, none⟩), .pointer (some ⟨w.heap.size + 1 + 1 + 1 + 1, 0, none⟩)]) rfl trivial (enters_of Try.func295 (by kernel_rfl) rfl)
    (lastOnes_stops Fence.wide 5 trivial rfl (by omega) (w.heap.size + 1 + 1 + 1) (w.heap.size + 1 + 1 + 1 + 1) W5.heap.size (w.heap.size + 1) b off n cap long hn hnc hl1 hl2 (by omega) (by omega) (by omega) (by omega) W5 (BS.cell 0) (BL.cell 0))
    (fun h k => h.trans k) (fun W l o o' hl h h1 h2 => kpG_b W l o o' hl h h1 h2) (Below.refl _ _) (fun _ => rfl)
    (LorI w W5.heap.size w.heap.size (w.heap.size + 1 + 1) (w.heap.size + 1) 2 (.func (.func 106) #[] #[]) n (fun i => midI (lastZ zs long i))) (fun _ _ _ => False)
    (LorI.ownFrom (by omega) (by omega) (by omega) (by omega)) (fun _ _ _ _ _ hs _ _ => hs)
    ⟨Nat.le_refl _, BA.cell 0, BT.cell 0, RW.congr fun i hi => by unfold contF; rfl, X5⟩
    (fun x => { tmps := #[.slice (some ⟨b, off, none⟩) n cap, .int .i64 (long : Int), .func (.func 106) #[] #[], undef, undef, .pointer (some ⟨w.heap.size, 0, none⟩), .slice none 0 0, .pointer (some ⟨w.heap.size + 1 + 1, 0, none⟩), .int .i64 (x.1 : Int), lastV b off long x.1, .slice (some ⟨b, off, none⟩) n cap, .int .i64 (n : Int), .slice (some ⟨w.heap.size + 1, 0, none⟩) n n, .slice (some ⟨b, off, none⟩) n cap, .int .i64 (long : Int), .func (.func 295) #[] #[.pointer (some ⟨w.heap.size + 1 + 1 + 1, 0, none⟩), .pointer (some ⟨w.heap.size + 1 + 1 + 1 + 1, 0, none⟩)], .int .i64 (x.1 : Int), lastV b off long x.1, undef, undef, undef, undef, undef, undef, undef], defers := [] }) ?assign ?body ?done ?stop
  case assign =>
    intro l x W K hK
    unfold lastE
    gi_wp2
    exact hK
  case body =>
    rintro l pre x W hI _
    have a1 := hI.a
    have a2 := hI.ts
    have a3 := hI.r.cell x.2
    have a4 := hI.r.frozen x.1
    have hxn : (x.1 : Int) < (n : Int) := by have := x.2; omega
    have hx0 : (0 : Int) ≤ (x.1 : Int) := by omega
    have HRD := Lib.hid (reads_last hz (fun i hi => (Ext.some hI.b (hcs i hi))) long x.1 x.2)
    obtain ⟨v, hv⟩ : ∃ v, midI (lastZ zs long x.1) = v := ⟨_, rfl⟩
    have HV := Lib.hid hv
    have HI := Lib.hid hI
    have hx3 : x.1 < n := x.2
    have hmx : Try.prog.follows .mixedOrders = true := by kernel_rfl
    unfold lastV
    gi_wp2
    gi_region_with_o (refine ⟨trivial, ?_⟩; gi_at_call 106; refine (CallsIn.inRound l (callsIn_wide.2 (c_midClosure _ _ _ _ _ _ (by omega) (by omega) (HRD.out.on (by (repeat (first | assumption | exact Ext.refl _ | (with_reducible refine Ext.stepS ?_ (by first | exact Nat.le_refl _ | (simp; done) | (simp; omega)) _) | (with_reducible refine Ext.stepN ?_ _) | (with_reducible refine Ext.stepD ?_) | (with_reducible refine Ext.stepA ?_ _)))))))).mono ?_; rw [HV.out]; rintro e w' ⟨rfl, x'⟩; have XW : Ext W w' := Ext.trans (by (repeat (first | assumption | exact Ext.refl _ | (with_reducible refine Ext.stepS ?_ (by first | exact Nat.le_refl _ | (simp; done) | (simp; omega)) _) | (with_reducible refine Ext.stepN ?_ _) | (with_reducible refine Ext.stepD ?_) | (with_reducible refine Ext.stepA ?_ _)))) x'; have b1 := XW.some a1; have b2 := XW.some a2; have b3 := XW.some a3; have b4 := (HI.out.r.of_block (Below.block XW _ HI.out.r.lt)).frozen x.1; clear x')
    all_goals gi_wp2
    all_goals (try go_bits)
    all_goals
      clear a1 a2 a3 a4 b1 b2 b3 b4 HRD hmx
      have st := fun (W1 : World) (X : Ext W W1) => HI.out.step (by omega) (by omega) (by omega) (by omega) (by omega) (by omega) x X HV.out
      first | exact st _ XW | exact st _ (XW.trans (Ext.drew _)) | exact st _ (XW.trans (Ext.drewN _ _)) | exact st _ ((XW.trans (Ext.drew _)).trans (Ext.drew _))
  case done =>
    rintro D ys W hD rfl hI hK
    have a2 := hI.ts
    gi_wp2
    refine ⟨by simp, .inl ⟨_, _, rfl, run_takeDeferred hK, ?_⟩⟩
    have hDg : w.heap.size + 1 < D := by omega
    have hgb := (grownBy_putObj' W D (Obj.deferred none)).block (w.heap.size + 1) hI.r.lt (fun e => by cases e; omega)
    have hrow := hI.r.of_block hgb
    have hExt : Ext w (W.putObj D (Obj.deferred none)) := hI.b.grown (grownBy_putObj' W D _) (Below.size hI.b) (fun k e => by cases e; omega)
    exact ⟨_, results_tmp rfl _ _ _, some ⟨w.heap.size + 1, 0, none⟩, n, rfl, own_made (by rw [ints_length, tellZ_length]; exact hz) (by omega) hrow (fun i hi => by
      rw [ints_get _ i (by rw [tellZ_length]; omega), contF_all n _ i hi]
      have := tellZ_get midI zs long i (by omega)
      unfold getI at this
      rw [this]), hExt⟩
  case stop =>
    rintro D c pre W _ _ h _
    exact h.elim
end Go.Proofs.Ytfbapbgiegploaa
/- MiddleOfWindow by the program. -/
namespace Go.Proofs.Ytfbapbgiegploaa
open Go.ChangeShapes Go.WideShapes Go.ChangeAt Go.RowKit
set_option linter.unusedVariables false
set_option maxHeartbeats 2000000 in
theorem c_tellReadings_Mid (a : Option Addr) (n cap : Nat) (zs : List Int) (long : Int) (w : World) {rz : List Int} {rb : Bool} (hv : tellR midI zs long = (rz, rb)) (hm : n ≤ 1048576) (h : Reads w a n (ints zs)) (hnc : n ≤ cap) :
    Calls Try.prog 103 #[.slice a n cap, .int .i64 long, .func (.func 106) #[] #[]] w (RetSB 2 rz.length (ints rz) rb w) := by
  have hz := h.int.1
  have H := Lib.hid h
  have HM := Lib.hid (show n ≤ maxLen by unfold maxLen; omega)
  cases h1 : inB 1 (n : Int) 128
  · rw [tellR_no (readB_1 (by rw [hz]; exact h1))] at hv
    cases hv
    have H1 := Lib.hid h1
    clear h1 h hm hz
    go_enter Try.func103, Try.ntmps103
    go_wp2_with fail
    refine (c_impl_isStreamSize_s _ _ H1.out).mono ?_; rintro e w' ⟨rfl, rfl⟩
    go_wp2
    go_ret2
    exact RetSB.nil _ _
  cases h2 : manyB 1000000 zs
  · rw [tellR_no (readB_2 h2)] at hv
    cases hv
    have H1 := Lib.hid h1
    have H2 := Lib.hid h2
    clear h1 h2 h hm hz
    go_enter Try.func103, Try.ntmps103
    go_wp2_with fail
    refine (c_impl_isStreamSize_s _ _ H1.out).mono ?_; rintro e w' ⟨rfl, rfl⟩
    go_wp2_with fail
    refine (c_areWithin_q _ _ _ zs 1000000 _ (by omega) (by omega) HM.out H2.out H.out).mono ?_; rintro e w' ⟨rfl, x'⟩
    have X := Lib.hid x'
    clear x'
    go_wp2
    go_ret2
    exact ⟨none, 0, rfl, Own.nil _ _ _ _, X.out⟩
  cases h3 : inB 1 long 128
  · rw [tellR_no (readB_3 h3)] at hv
    cases hv
    have H1 := Lib.hid h1
    have H2 := Lib.hid h2
    have H3 := Lib.hid h3
    clear h1 h2 h3 h hm hz
    go_enter Try.func103, Try.ntmps103
    go_wp2_with fail
    refine (c_impl_isStreamSize_s _ _ H1.out).mono ?_; rintro e w' ⟨rfl, rfl⟩
    go_wp2_with fail
    refine (c_areWithin_q _ _ _ zs 1000000 _ (by omega) (by omega) HM.out H2.out H.out).mono ?_; rintro e u1 ⟨rfl, x'⟩
    have X := Lib.hid x'
    clear x'
    go_wp2_with fail
    refine (c_impl_isStreamSize_s _ _ H3.out).mono ?_; rintro e w' ⟨rfl, rfl⟩
    go_wp2
    go_ret2
    exact ⟨none, 0, rfl, Own.nil _ _ _ _, X.out⟩
  · rw [tellR_yes (readB_y (by rw [hz]; exact h1) h2 h3)] at hv
    cases hv
    obtain ⟨b1, b2⟩ := inB_is.1 h1
    obtain ⟨b3, b4⟩ := inB_is.1 h3
    obtain ⟨L, hL⟩ : ∃ L : Nat, long.toNat = L := ⟨_, rfl⟩
    obtain rfl : long = (L : Int) := by omega
    rw [hL]
    obtain ⟨b, off, rfl⟩ : ∃ b off, a = some ⟨b, off, none⟩ := by
      rcases h.2 with h0 | ⟨b', off', rfl, _⟩
      · omega
      · exact ⟨_, _, rfl⟩
    have H1 := Lib.hid h1
    have H2 := Lib.hid h2
    have H3 := Lib.hid h3
    have HTL := Lib.hid (show (tellZ midI zs L).length = n by rw [tellZ_length]; exact hz)
    clear h1 h2 h3 h hm hz hL
    go_enter Try.func103, Try.ntmps103
    go_wp2_with fail
    refine (c_impl_isStreamSize_s _ _ H1.out).mono ?_; rintro e w' ⟨rfl, rfl⟩
    go_wp2_with fail
    refine (c_areWithin_q _ _ _ zs 1000000 _ (by omega) (by omega) HM.out H2.out H.out).mono ?_; rintro e u1 ⟨rfl, x'⟩
    have X := Lib.hid x'
    clear x'
    go_wp2_with fail
    refine (c_impl_isStreamSize_s _ _ H3.out).mono ?_; rintro e w' ⟨rfl, rfl⟩
    go_wp2_with fail
    refine (c_tellLast_Mid b off n cap L zs _ (by omega) (by omega) hnc (by omega) (by omega) (H.out.on X.out)).mono ?_; rintro e u2 ⟨a2, c2, rfl, o2, x2⟩
    have O2 := Lib.hid o2
    have X2 := Lib.hid (X.out.trans x2)
    have SZ := Lib.hid X.out.size
    clear o2 x2
    go_wp2
    go_ret2
    exact ⟨a2, c2, by first | (rw [HTL.out]; done) | (rw [HTL.out]; rfl), by rw [HTL.out]; exact O2.out.wide SZ.out (Nat.le_refl _), X2.out⟩
theorem c_impl_MiddleOfWindow (a : Option Addr) (n cap : Nat) (zs : List Int) (long : Int) (w : World) {rz : List Int} {rb : Bool} (hv : tellR midI zs long = (rz, rb)) (hm : n ≤ 1048576) (h : Reads w a n (ints zs)) (hnc : n ≤ cap) :
    Calls Try.prog 20 #[.slice a n cap, .int .i64 long] w (RetSB 2 rz.length (ints rz) rb w) := by
  have H := Lib.hid h
  have HV := Lib.hid hv
  clear h hv
  go_enter Try.func20, Try.ntmps20
  go_wp2_with fail
  refine (c_tellReadings_Mid _ _ _ zs long _ HV.out hm H.out hnc).mono ?_; rintro e u1 ⟨a1, c1, rfl, o1, x1⟩
  have O1 := Lib.hid o1
  have X1 := Lib.hid x1
  clear o1 x1
  go_wp2
  go_ret2
  exact ⟨_, _, rfl, O1.out, X1.out⟩
end Go.Proofs.Ytfbapbgiegploaa
