/- The list of the most frequent last ones of each index, by the program. -/
import Derived.Test.YtplngjbllllanaaLor
import Derived.Test.YtplngjbllllanaaOfb
namespace Go.Proofs.Ytplngjbllllanaa
open Go.ChangeShapes Go.WideShapes Go.ChangeAt Go.RowKit Go.Shelf
set_option linter.unusedVariables false
attribute [local go_sem] Oper.semAt_some
set_option maxRecDepth 100000 in
set_option maxHeartbeats 4000000 in
theorem c_tellLast_Oft (b off n cap long : Nat) (zs : List Int) (w : World) (h1 : 1 ≤ n) (hn : n ≤ 128) (hnc : n ≤ cap) (hl1 : 1 ≤ long) (hl2 : long ≤ 128) (hmany : ManyOk zs) (h : Reads w (some ⟨b, off, none⟩) n (ints zs)) :
    Calls Try.prog 145 #[.slice (some ⟨b, off, none⟩) n cap, .int .i64 (long : Int), .func (.func 91) #[] #[]] w (RetS 2 n (ints (tellZ oftI zs long)) w) := by
  obtain ⟨hz, hr⟩ := h.int
  have hcs : ∀ i, i < n → w.cell? ⟨b, off + i, none⟩ = some (.int .i64 (zs[i]?.getD 0)) := by
    rcases hr with h0 | ⟨b', off', he, hc⟩
    · omega
    · cases he; exact hc
  refine (callsIn_wide (n := 6)).1 ?_
  refine callsIn_of_wp_marks Try.func145 rfl trivial ?_ rfl
  simp only [Try.ntmps145, List.size_toArray, List.length_cons, List.length_nil, Nat.reduceAdd, Nat.reduceSub, Array.replicate_succ, Array.replicate_zero, List.push_toArray, List.append_toArray, List.nil_append, List.cons_append]
  have hmk := run_make_row' (P := Try.prog) 40 2 (.int .i64 0) 8 Try.underlying40 info_i64 rfl .i64 .i64 n (by omega) (by omega)
  gi_wp2_with (refine ⟨trivial, ?_⟩; gi_at_call 99; refine (callsIn_wide.2 (c_lastOnes _ _ _ _ _)).mono ?_; rintro e w' ⟨rfl, rfl⟩)
  have BA := (((((Box.alloc w #[.func (.func 91) #[] #[]] 105).past (.cells (madeCells #[.int .i64 0] n) 2)).past (.cells #[.slice (some ⟨w.heap.size + 1, 0, none⟩) n n] 40)).past (.cells #[.slice (some ⟨b, off, none⟩) n cap] 40)).past (.cells #[.int .i64 (long : Int)] 2))
  have BT := (((Box.alloc_at ((w.alloc (.cells #[.func (.func 91) #[] #[]] 105)).alloc (.cells (madeCells #[.int .i64 0] n) 2)) #[.slice (some ⟨w.heap.size + 1, 0, none⟩) n n] 40 (b := w.heap.size + 1 + 1) (by simp)).past (.cells #[.slice (some ⟨b, off, none⟩) n cap] 40)).past (.cells #[.int .i64 (long : Int)] 2))
  have BS := ((Box.alloc_at (((w.alloc (.cells #[.func (.func 91) #[] #[]] 105)).alloc (.cells (madeCells #[.int .i64 0] n) 2)).alloc (.cells #[.slice (some ⟨w.heap.size + 1, 0, none⟩) n n] 40)) #[.slice (some ⟨b, off, none⟩) n cap] 40 (b := w.heap.size + 1 + 1 + 1) (by simp)).past (.cells #[.int .i64 (long : Int)] 2))
  have BL := (Box.alloc_at ((((w.alloc (.cells #[.func (.func 91) #[] #[]] 105)).alloc (.cells (madeCells #[.int .i64 0] n) 2)).alloc (.cells #[.slice (some ⟨w.heap.size + 1, 0, none⟩) n n] 40)).alloc (.cells #[.slice (some ⟨b, off, none⟩) n cap] 40)) #[.int .i64 (long : Int)] 2 (b := w.heap.size + 1 + 1 + 1 + 1) (by simp))
  have RW := ((((World.rowIs_made (w.alloc (.cells #[.func (.func 91) #[] #[]] 105)) (.int .i64 0) n 2).alloc (.cells #[.slice (some ⟨w.heap.size + 1, 0, none⟩) n n] 40)).alloc (.cells #[.slice (some ⟨b, off, none⟩) n cap] 40)).alloc (.cells #[.int .i64 (long : Int)] 2))
  rw [show (w.alloc (.cells #[.func (.func 91) #[] #[]] 105)).heap.size = w.heap.size + 1 by simp] at RW
  have X5 : Ext w (((((w.alloc (.cells #[.func (.func 91) #[] #[]] 105)).alloc (.cells (madeCells #[.int .i64 0] n) 2)).alloc (.cells #[.slice (some ⟨w.heap.size + 1, 0, none⟩) n n] 40)).alloc (.cells #[.slice (some ⟨b, off, none⟩) n cap] 40)).alloc (.cells #[.int .i64 (long : Int)] 2)) := by (repeat (first | assumption | exact Ext.refl _ | (with_reducible refine Ext.stepS ?_ (by first | exact Nat.le_refl _ | (simp; done) | (simp; omega)) _) | (with_reducible refine Ext.stepN ?_ _) | (with_reducible refine Ext.stepD ?_) | (with_reducible refine Ext.stepA ?_ _)))
  obtain ⟨W5, hW5⟩ : ∃ W5, (((((w.alloc (.cells #[.func (.func 91) #[] #[]] 105)).alloc (.cells (madeCells #[.int .i64 0] n) 2)).alloc (.cells #[.slice (some ⟨w.heap.size + 1, 0, none⟩) n n] 40)).alloc (.cells #[.slice (some ⟨b, off, none⟩) n cap] 40)).alloc (.cells #[.int .i64 (long : Int)] 2)) = W5 := ⟨_, rfl⟩
  have hs5 : W5.heap.size = w.heap.size + 5 := by rw [← hW5]; simp
  rw [hW5] at BA BT BS BL RW X5
  rw [hW5]
  refine wpIn_rangeFunc_ownG rfl (by omega) (gf := 153) (lb := #[.pointer (some ⟨w.heap.size + 1 + 1 + 1, 0, none⟩), .pointer (some ⟨w.heap.size + 1 + 1 + 1 + 1, 0, none⟩)]) rfl trivial (enters_of Try.func153 (by kernel_rfl) rfl)
    (lastOnes_stops Fence.wide 5 trivial rfl (by omega) (w.heap.size + 1 + 1 + 1) (w.heap.size + 1 + 1 + 1 + 1) W5.heap.size (w.heap.size + 1) b off n cap long hn hnc hl1 hl2 (by omega) (by omega) (by omega) (by omega) W5 (BS.cell 0) (BL.cell 0))
    (fun h k => h.trans k) (fun W l o o' hl h h1 h2 => kpG_b W l o o' hl h h1 h2) (Below.refl _ _) (fun _ => rfl)
    (LorI w W5.heap.size w.heap.size (w.heap.size + 1 + 1) (w.heap.size + 1) 2 (.func (.func 91) #[] #[]) n (fun i => oftI (lastZ zs long i))) (fun _ _ _ => False)
    (LorI.ownFrom (by omega) (by omega) (by omega) (by omega)) (fun _ _ _ _ _ hs _ _ => hs)
    ⟨Nat.le_refl _, BA.cell 0, BT.cell 0, RW.congr fun i hi => by unfold contF; rfl, X5⟩
    (fun x => { tmps := #[.slice (some ⟨b, off, none⟩) n cap, .int .i64 (long : Int), .func (.func 91) #[] #[], undef, undef, .pointer (some ⟨w.heap.size, 0, none⟩), .slice none 0 0, .pointer (some ⟨w.heap.size + 1 + 1, 0, none⟩), .int .i64 (x.1 : Int), lastV b off long x.1, .slice (some ⟨b, off, none⟩) n cap, .int .i64 (n : Int), .slice (some ⟨w.heap.size + 1, 0, none⟩) n n, .slice (some ⟨b, off, none⟩) n cap, .int .i64 (long : Int), .func (.func 153) #[] #[.pointer (some ⟨w.heap.size + 1 + 1 + 1, 0, none⟩), .pointer (some ⟨w.heap.size + 1 + 1 + 1 + 1, 0, none⟩)], .int .i64 (x.1 : Int), lastV b off long x.1, undef, undef, undef, undef, undef, undef, undef], defers := [] }) ?assign ?body ?done ?stop
  case assign =>
    intro l x W K hK
    unfold lastE
    gi_wp2
    exact hK
  case body =>
    rintro l pre x W hI _
    have a1 := hI.a
    have a2 := hI.ts
    have a3 := hI.r.cell x.2
    have a4 := hI.r.frozen x.1
    have hxn : (x.1 : Int) < (n : Int) := by have := x.2; omega
    have hx0 : (0 : Int) ≤ (x.1 : Int) := by omega
    have HRD := Lib.hid (reads_last hz (fun i hi => (Ext.some hI.b (hcs i hi))) long x.1 x.2)
    obtain ⟨v, hv⟩ : ∃ v, oftI (lastZ zs long x.1) = v := ⟨_, rfl⟩
    have HV := Lib.hid hv
    have HI := Lib.hid hI
    have hx3 : x.1 < n := x.2
    have hmx : Try.prog.follows .mixedOrders = true := by kernel_rfl
    unfold lastV
    gi_wp2
    gi_region_with_o (refine ⟨trivial, ?_⟩; gi_at_call 91; refine (CallsIn.inRound l (callsIn_wide.2 (c_mostOften _ _ _ _ _ _ (by omega) (by omega) (hmany.last _ _) (HRD.out.on (by (repeat (first | assumption | exact Ext.refl _ | (with_reducible refine Ext.stepS ?_ (by first | exact Nat.le_refl _ | (simp; done) | (simp; omega)) _) | (with_reducible refine Ext.stepN ?_ _) | (with_reducible refine Ext.stepD ?_) | (with_reducible refine Ext.stepA ?_ _)))))))).mono ?_; rw [HV.out]; rintro e w' ⟨rfl, x'⟩; have XW : Ext W w' := Ext.trans (by (repeat (first | assumption | exact Ext.refl _ | (with_reducible refine Ext.stepS ?_ (by first | exact Nat.le_refl _ | (simp; done) | (simp; omega)) _) | (with_reducible refine Ext.stepN ?_ _) | (with_reducible refine Ext.stepD ?_) | (with_reducible refine Ext.stepA ?_ _)))) x'; have b1 := XW.some a1; have b2 := XW.some a2; have b3 := XW.some a3; have b4 := (HI.out.r.of_block (Below.block XW _ HI.out.r.lt)).frozen x.1; clear x')
    all_goals gi_wp2
    all_goals (try go_bits)
    all_goals
      clear a1 a2 a3 a4 b1 b2 b3 b4 HRD hmx
      have st := fun (W1 : World) (X : Ext W W1) => HI.out.step (by omega) (by omega) (by omega) (by omega) (by omega) (by omega) x X HV.out
      first | exact st _ XW | exact st _ (XW.trans (Ext.drew _)) | exact st _ (XW.trans (Ext.drewN _ _)) | exact st _ ((XW.trans (Ext.drew _)).trans (Ext.drew _))
  case done =>
    rintro D ys W hD rfl hI hK
    have a2 := hI.ts
    gi_wp2
    refine ⟨by simp, .inl ⟨_, _, rfl, run_takeDeferred hK, ?_⟩⟩
    have hDg : w.heap.size + 1 < D := by omega
    have hgb := (grownBy_putObj' W D (Obj.deferred none)).block (w.heap.size + 1) hI.r.lt (fun e => by cases e; omega)
    have hrow := hI.r.of_block hgb
    have hExt : Ext w (W.putObj D (Obj.deferred none)) := hI.b.grown (grownBy_putObj' W D _) (Below.size hI.b) (fun k e => by cases e; omega)
    exact ⟨_, results_tmp rfl _ _ _, some ⟨w.heap.size + 1, 0, none⟩, n, rfl, own_made (by rw [ints_length, tellZ_length]; exact hz) (by omega) hrow (fun i hi => by
      rw [ints_get _ i (by rw [tellZ_length]; omega), contF_all n _ i hi]
      have := tellZ_get oftI zs long i (by omega)
      unfold getI at this
      rw [this]), hExt⟩
  case stop =>
    rintro D c pre W _ _ h _
    exact h.elim
end Go.Proofs.Ytplngjbllllanaa
