/- LevelsRank: the program's side. -/
import Derived.Test.YtiimadklflmpcaaLrk
namespace Go.Proofs.Ytiimadklflmpcaa
open Go.ChangeShapes Go.WideShapes Go.ChangeAt Go.RowKit Go.Shelf
open Go.Proofs.Ytiimadklflmpcaa.Flo
set_option linter.unusedVariables false
attribute [local go_sem] Oper.semAt_some
theorem c_lrLe (x y B : Nat) (w : World) (hb : w.cell? ⟨B, 0, none⟩ = some (.float .f32 x)) : Calls Try.prog 103 #[.float .f32 y, .pointer (some ⟨B, 0, none⟩)] w fun e w' => e = .returned (.bool (leP x y)) ∧ w = w' := by
  go_enter Try.func103, Try.ntmps103
  go_wp2
  go_ret
  exact ⟨rfl, rfl⟩
set_option maxRecDepth 100000 in
set_option maxHeartbeats 4000000 in
theorem c_standingFor_le (x0 B : Nat) (R S : Int) (a : Option Addr) (n cap : Nat) (hs : Nat → Hd) (zss : List (List Nat)) (w : World) (hn : n ≤ 16) (hrl : ∀ i, i < n → (rowS zss i).length ≤ 64) (h : ReadsS flos w a n hs zss) (hB : w.cell? ⟨B, 0, none⟩ = some (.float .f32 x0)) :
    Calls Try.prog 100 #[.agg #[.int .i64 R, .int .i64 S, .slice a n cap], .func (.func 103) #[] #[.pointer (some ⟨B, 0, none⟩)]] w fun e w' => e = .returned (.int .i64 ((standTo (leP x0) zss n : Nat) : Int)) ∧ Ext w w' := by
  refine (callsIn_wide (n := 6)).1 ?_
  refine callsIn_of_wp_marks Try.func100 rfl trivial ?_ rfl
  simp only [Try.ntmps100, List.size_toArray, List.length_cons, List.length_nil, Nat.reduceAdd, Nat.reduceSub, Array.replicate_succ, Array.replicate_zero, List.push_toArray, List.append_toArray, List.nil_append, List.cons_append]
  gi_wp2_with (refine ⟨trivial, ?_⟩; gi_at_call 107; refine (callsIn_wide.2 (c_standing _ _ _ _ _ _)).mono ?_; rintro e w' ⟨rfl, rfl⟩)
  have BQ := (((Box.alloc_at (w.alloc (.cells #[.int .i64 R, .int .i64 S, .slice a n cap] 49)) #[.func (.func 103) #[] #[.pointer (some ⟨B, 0, none⟩)]] 95 (b := w.heap.size + 1) (by simp)).past (.cells #[.int .i64 0] 2)).past (.cells #[.int .i64 R, .int .i64 S, .slice a n cap] 49))
  have BL := (Box.alloc_at (((w.alloc (.cells #[.int .i64 R, .int .i64 S, .slice a n cap] 49)).alloc (.cells #[.func (.func 103) #[] #[.pointer (some ⟨B, 0, none⟩)]] 95)).alloc (.cells #[.int .i64 0] 2)) #[.int .i64 R, .int .i64 S, .slice a n cap] 49 (b := w.heap.size + 1 + 1 + 1) (by simp))
  have RW0 := rowIs_one ((w.alloc (.cells #[.int .i64 R, .int .i64 S, .slice a n cap] 49)).alloc (.cells #[.func (.func 103) #[] #[.pointer (some ⟨B, 0, none⟩)]] 95)) (.int .i64 0) 2
  have RW := RW0.alloc (.cells #[.int .i64 R, .int .i64 S, .slice a n cap] 49)
  rw [show ((w.alloc (.cells #[.int .i64 R, .int .i64 S, .slice a n cap] 49)).alloc (.cells #[.func (.func 103) #[] #[.pointer (some ⟨B, 0, none⟩)]] 95)).heap.size = w.heap.size + 1 + 1 by simp] at RW
  have X4 : Ext w ((((w.alloc (.cells #[.int .i64 R, .int .i64 S, .slice a n cap] 49)).alloc (.cells #[.func (.func 103) #[] #[.pointer (some ⟨B, 0, none⟩)]] 95)).alloc (.cells #[.int .i64 0] 2)).alloc (.cells #[.int .i64 R, .int .i64 S, .slice a n cap] 49)) := by (repeat (first | assumption | exact Ext.refl _ | (with_reducible refine Ext.stepS ?_ (by first | exact Nat.le_refl _ | (simp; done) | (simp; omega)) _) | (with_reducible refine Ext.stepN ?_ _) | (with_reducible refine Ext.stepD ?_) | (with_reducible refine Ext.stepA ?_ _)))
  obtain ⟨W4, hW4⟩ : ∃ W4, ((((w.alloc (.cells #[.int .i64 R, .int .i64 S, .slice a n cap] 49)).alloc (.cells #[.func (.func 103) #[] #[.pointer (some ⟨B, 0, none⟩)]] 95)).alloc (.cells #[.int .i64 0] 2)).alloc (.cells #[.int .i64 R, .int .i64 S, .slice a n cap] 49)) = W4 := ⟨_, rfl⟩
  have hs4 : W4.heap.size = w.heap.size + 4 := by rw [← hW4]; simp
  have RW' : ((((w.alloc (.cells #[.int .i64 R, .int .i64 S, .slice a n cap] 49)).alloc (.cells #[.func (.func 103) #[] #[.pointer (some ⟨B, 0, none⟩)]] 95)).alloc (.cells #[.int .i64 0] 2)).alloc (.cells #[.int .i64 R, .int .i64 S, .slice a n cap] 49)).rowIs (w.heap.size + 1 + 1) 2 1 (fun _ => .int .i64 0) := RW
  rw [hW4] at BQ BL RW' X4
  rw [hW4]
  refine wpIn_rangeFunc_ownG rfl (by omega) (gf := 145) (lb := #[.pointer (some ⟨w.heap.size + 1 + 1 + 1, 0, none⟩)]) rfl trivial (enters_of Try.func145 (by kernel_rfl) rfl)
    (standing_stops Fence.wide 5 trivial rfl (by omega) (w.heap.size + 1 + 1 + 1) W4.heap.size (w.heap.size + 1 + 1) a n cap hs zss hn hrl w W4 X4 (by omega) (by omega) (by omega) (by omega) h (BL.cell 2))
    (fun h k => h.trans k) (fun W l o o' hl h h1 h2 => kpG_b W l o o' hl h h1 h2) (Below.refl _ _) (fun _ => rfl)
    (StI w W4.heap.size (w.heap.size + 1) (w.heap.size + 1 + 1) 2 (.func (.func 103) #[] #[.pointer (some ⟨B, 0, none⟩)]) (leP x0)) (fun _ _ _ => False)
    (StI.ownFrom (by omega) (by omega) (by omega)) (fun _ _ _ _ _ hs _ _ => hs)
    ⟨Nat.le_refl _, BQ.cell 0, RW', X4⟩
    (fun x => { tmps := #[.agg #[.int .i64 R, .int .i64 S, .slice a n cap], .func (.func 103) #[] #[.pointer (some ⟨B, 0, none⟩)], .pointer (some ⟨w.heap.size, 0, none⟩), .pointer (some ⟨w.heap.size + 1, 0, none⟩), .int .i64 0, .pointer (some ⟨w.heap.size + 1 + 1, 0, none⟩), .float .f32 x.1.1, .int .i64 ((2 ^ x.1.2 : Nat) : Int), .agg #[.int .i64 R, .int .i64 S, .slice a n cap], .func (.func 145) #[] #[.pointer (some ⟨w.heap.size + 1 + 1 + 1, 0, none⟩)], .float .f32 x.1.1, .int .i64 ((2 ^ x.1.2 : Nat) : Int), undef, undef, undef, undef, undef, undef, undef], defers := [] }) ?assign ?body ?done ?stop
  case assign =>
    intro l x W K hK
    unfold stE
    gi_wp2
    exact hK
  case body =>
    rintro l pre x W hI hlen
    have a1 := hI.f
    obtain ⟨s, hs'⟩ : ∃ s, stSum (leP x0) pre = s := ⟨_, rfl⟩
    obtain ⟨M, hM⟩ : ∃ M : Nat, 2 ^ x.1.2 = M := ⟨_, rfl⟩
    have hsb : s ≤ 33554432 := by have h1 := stSum_le (leP x0) pre; rw [hs'] at h1; omega
    have hMb : M ≤ 32768 := by rw [← hM]; exact Nat.pow_le_pow_right (n := 2) (by decide) (show x.1.2 ≤ 15 by have := x.2; omega)
    have a4 := Ext.some hI.b hB
    cases hp : leP x0 x.1.1
    · have HV := Lib.hid (show stSum (leP x0) (pre ++ [x]) = stSum (leP x0) pre by
        rw [stSum_snoc, hp]; rfl)
      have HP := Lib.hid hp
      have HI := Lib.hid hI
      rw [hM]
      clear hI hs' hM hlen hp
      gi_wp2_with (refine ⟨trivial, ?_⟩; gi_at_call 103; refine (CallsIn.inRound l (callsIn_wide.2 (c_lrLe x0 _ _ _ a4))).mono ?_; rw [HP.out]; rintro e w' ⟨rfl, rfl⟩)
      all_goals
        clear a1 a4
        have st := fun (W1 : World) (X : Ext _ W1) => HI.out.same (by omega) (by omega) x X HV.out
        first | exact st _ (Ext.refl _) | exact st _ (Ext.drew _) | exact st _ (Ext.drewN _ _)
    · have HV := Lib.hid (show ((stSum (leP x0) (pre ++ [x]) : Nat) : Int) = (s : Int) + (M : Int) by
        rw [stSum_snoc, hs', hM, hp]
        show ((s + M : Nat) : Int) = _
        omega)
      have HP := Lib.hid hp
      have a2 := hI.r.cell (i := 0) (by omega)
      have a3 := hI.r.frozen 0
      rw [hs'] at a2
      rw [hM]
      have HI := Lib.hid hI
      clear hI hs' hM hlen hp
      gi_wp2_with (refine ⟨trivial, ?_⟩; gi_at_call 103; refine (CallsIn.inRound l (callsIn_wide.2 (c_lrLe x0 _ _ _ a4))).mono ?_; rw [HP.out]; rintro e w' ⟨rfl, rfl⟩)
      all_goals
        clear a1 a2 a3 a4
        have st := fun (W1 : World) (X : Ext _ W1) => HI.out.step (by omega) (by omega) (by omega) (by omega) x X HV.out
        first | exact st _ (Ext.refl _) | exact st _ (Ext.drew _) | exact st _ (Ext.drewN _ _)
  case done =>
    rintro D ys W hD rfl hI hK
    have a2 := hI.r.cell (i := 0) (by omega)
    rw [stSum_all (leP x0) zss n hn] at a2
    gi_wp2
    refine ⟨by simp, .inl ⟨_, _, rfl, run_takeDeferred hK, ?_⟩⟩
    have hExt : Ext w (W.putObj D (Obj.deferred none)) := hI.b.grown (grownBy_putObj' W D _) (Below.size hI.b) (fun k e => by cases e; omega)
    exact ⟨_, results_tmp rfl _ _ _, rfl, hExt⟩
  case stop =>
    rintro D c pre W _ _ h _
    exact h.elim
theorem lcV_ok {R S : Int} {zss : List (List Nat)} {z : Int} {b : Bool} (h : lcV R S zss = (z, b)) : b = manyL R S zss := by
  unfold lcV at h
  cases hm : manyL R S zss
  · rw [hm] at h; cases h; rfl
  · rw [hm] at h; cases h; rfl
set_option maxHeartbeats 2000000 in
theorem c_impl_LevelsRank (R S : Int) (a : Option Addr) (n cap : Nat) (hs : Nat → Hd) (zss : List (List Nat)) (x : Nat) (w : World) {rz : Int} {rb : Bool} (hv : lrV R S zss x = (rz, rb)) (hl : n + totS zss n ≤ 1048576) (hb : BitsS zss) (hx : x < 4294967296) (h : ReadsS flos w a n hs zss) :
    Calls Try.prog 44 #[.agg #[.int .i64 R, .int .i64 S, .slice a n cap], .float .f32 x] w fun e w' => e = .returned (.tuple #[.int .i64 rz, .bool rb]) ∧ Ext w w' := by
  have hz := h.len
  subst hz
  have BX := Lib.hid ((Box.alloc w #[.int .i64 R, .int .i64 S, .slice a zss.length cap] 49).past (.cells #[.float .f32 x] 39))
  have BF := Lib.hid (Box.alloc_at (w.alloc (.cells #[.int .i64 R, .int .i64 S, .slice a zss.length cap] 49)) #[.float .f32 x] 39 (b := w.heap.size + 1) (by simp))
  have X0 := Lib.hid (show Ext w ((w.alloc (.cells #[.int .i64 R, .int .i64 S, .slice a zss.length cap] 49)).alloc (.cells #[.float .f32 x] 39)) from by (repeat (first | assumption | exact Ext.refl _ | (with_reducible refine Ext.stepS ?_ (by first | exact Nat.le_refl _ | (simp; done) | (simp; omega)) _) | (with_reducible refine Ext.stepN ?_ _) | (with_reducible refine Ext.stepD ?_) | (with_reducible refine Ext.stepA ?_ _))))
  have H := Lib.hid (h.on X0.out)
  have HBT := Lib.hid hb
  have HX := Lib.hid hx
  clear h hb hx
  obtain ⟨cz, cb, hc⟩ : ∃ cz cb, lcV R S zss = ((cz, cb) : Int × Bool) := ⟨_, _, rfl⟩
  have HC := Lib.hid hc
  have hcb := lcV_ok hc
  clear hc
  cases hm : manyL R S zss
  · have hv2 : (0, false) = (rz, rb) := by rw [← hv]; unfold lrV; rw [hm]; rfl
    cases hv2
    rw [hm] at hcb
    subst hcb
    clear hm hv
    go_enter Try.func44, Try.ntmps44
    go_wp2_with fail
    refine (c_impl_LevelsCount R S a _ cap hs zss _ HC.out hl HBT.out H.out).mono ?_; rintro e u1 ⟨rfl, x'⟩
    have X := Lib.hid (X0.out.trans x')
    clear x'
    go_wp2
    go_ret2
    exact ⟨rfl, X.out⟩
  · rw [hm] at hcb
    subst hcb
    have LO := Lib.hid (lev_ok (R := R) (S := S) (zss := zss) (by have h1 := hm; unfold manyL at h1; rw [Bool.and_eq_true] at h1; exact h1.1))
    cases hf : isFin .f32 x
    · have hv2 : (0, false) = (rz, rb) := by rw [← hv]; unfold lrV; rw [hm, hf]; rfl
      cases hv2
      have HF := Lib.hid hf
      clear hm hv hf
      go_enter Try.func44, Try.ntmps44
      go_wp2_with fail
      refine (c_impl_LevelsCount R S a _ cap hs zss _ HC.out hl HBT.out H.out).mono ?_; rintro e u1 ⟨rfl, x'⟩
      have X := Lib.hid (X0.out.trans x')
      have f0 := (BF.out.on x').cell 0
      simp only [List.getElem?_toArray, List.getElem?_cons_zero] at f0
      clear x'
      go_wp2_with (go_at_call 89; refine (c_impl_IsFinite_b x _ HX.out HF.out).mono ?_; rintro e w' ⟨rfl, q', rfl⟩)
      go_ret2
      exact ⟨rfl, X.out.trans (Ext.drewN _ _)⟩
    · have hv2 : (((standTo (leP x) zss zss.length : Nat) : Int), true) = (rz, rb) := by rw [← hv]; unfold lrV; rw [hm, hf]; rfl
      cases hv2
      have HF := Lib.hid hf
      clear hm hv hf
      go_enter Try.func44, Try.ntmps44
      go_wp2_with fail
      refine (c_impl_LevelsCount R S a _ cap hs zss _ HC.out hl HBT.out H.out).mono ?_; rintro e u1 ⟨rfl, x'⟩
      have X := Lib.hid x'
      have f0 := (BF.out.on x').cell 0
      simp only [List.getElem?_toArray, List.getElem?_cons_zero] at f0
      obtain ⟨g0, g1, g2⟩ := (BX.out.on x').three
      have F0 := Lib.hid f0
      clear x'
      go_wp2_with (go_at_call 89; refine (c_impl_IsFinite_b x _ HX.out HF.out).mono ?_; rintro e w' ⟨rfl, q', rfl⟩)
      refine (c_standingFor_le x (w.heap.size + 1) R S a _ cap hs zss _ LO.out.n LO.out.r (H.out.on (X.out.trans (Ext.drewN _ _))) (Ext.some (Ext.drewN _ _) F0.out)).mono ?_; rintro e u2 ⟨rfl, x'⟩
      have X2 := Lib.hid (((X0.out.trans X.out).trans (Ext.drewN _ _)).trans x')
      clear x' f0 g0 g1 g2
      go_wp2
      go_ret2
      exact ⟨rfl, X2.out⟩
end Go.Proofs.Ytiimadklflmpcaa
