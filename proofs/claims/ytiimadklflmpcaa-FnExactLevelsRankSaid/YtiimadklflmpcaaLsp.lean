/- Levels: for how many numbers they stand: the program's side. -/
import Derived.Test.YtiimadklflmpcaaLso
import Derived.Test.YtiimadklflmpcaaLor
namespace Go.Proofs.Ytiimadklflmpcaa
open Go.ChangeShapes Go.WideShapes Go.ChangeAt Go.RowKit Go.Shelf
set_option linter.unusedVariables false
attribute [local go_sem] Oper.semAt_some
/-- between two rounds -/
structure StI (w : World) (m q g : Nat) (t : TypeId) (fv : Value) (p : Nat → Bool) (pre : List St) (W : World) : Prop where
  s : m ≤ W.heap.size
  f : W.cell? ⟨q, 0, none⟩ = some fv
  r : W.rowIs g t 1 (fun _ => .int .i64 ((stSum p pre : Nat) : Int))
  b : Below w.heap.size w W
theorem StI.keep {w : World} {m q g : Nat} {t : TypeId} {fv : Value} {p : Nat → Bool} {pre : List St} {W W' : World} (hq : q < m) (hg : g < m) (h : StI w m q g t fv p pre W) (hs : W.heap.size ≤ W'.heap.size) (hk : ∀ k, k < m → W'.heap[k]? = W.heap[k]?) (hb : Below w.heap.size w W') : StI w m q g t fv p pre W' :=
  ⟨Nat.le_trans h.s hs, by rw [World.cell?_of_block (w := W) (hk q hq)]; exact h.f, h.r.of_block (hk g hg), hb⟩
theorem StI.ownFrom {w : World} {m q g : Nat} {t : TypeId} {fv : Value} {p : Nat → Bool} (hq : q < m) (hg : g < m) (hm : w.heap.size ≤ m) : OwnFrom m (StI w m q g t fv p) := fun pre W W' row h hgr hr =>
  h.keep hq hg hgr.size (fun k hk => hgr.block k (Nat.lt_of_lt_of_le hk h.s) (fun e => by have := (hr k e.symm).1; omega)) (h.b.grown hgr (Below.size h.b) (fun k e => Nat.le_trans hm (hr k e).1))
theorem rowIs_one (w : World) (z : Value) (t : TypeId) : (w.alloc (.cells #[z] t)).rowIs w.heap.size t 1 (fun _ => z) := by
  refine ⟨_, Deep.blk_alloc_new _ _, rfl, fun i hi => ?_⟩
  have e : i = 0 := by omega
  subst e; rfl
/-- a round that counts -/
theorem StI.step {w : World} {m q g : Nat} {t : TypeId} {fv : Value} {p : Nat → Bool} {pre : List St} {W W1 : World} (hq : q < m) (hg : g < m) (hgw : w.heap.size ≤ g) (qg : q ≠ g) (h : StI w m q g t fv p pre W) (x : St) (X : Ext W W1) {v : Int} (hv : ((stSum p (pre ++ [x]) : Nat) : Int) = v) :
    KeepsFrom m W (W1.setCell ⟨g, 0, none⟩ (.int .i64 v)) ∧ KpG m g W (W1.setCell ⟨g, 0, none⟩ (.int .i64 v)) ∧ StI w m q g t fv p (pre ++ [x]) (W1.setCell ⟨g, 0, none⟩ (.int .i64 v)) := by
  have T : Touch g (g + 1) W (W1.setCell ⟨g, 0, none⟩ (.int .i64 v)) := (Touch.of_ext X g (g + 1)).trans (Touch.setCell _ (a := ⟨g, 0, none⟩) (Nat.le_refl _) (Nat.lt_succ_self _) _)
  refine ⟨(keepsFrom_ext X).trans ((KeepsOthers.setCell _ _ _).from _), KpG.of_touch T h.s, ⟨Nat.le_trans h.s T.size, ?_, ?_, Touch.below h.b T hgw (Below.size h.b)⟩⟩
  · rw [World.cell?_of_block (w := W) (T.block q (Nat.lt_of_lt_of_le hq h.s) (by show q < g ∨ g + 1 ≤ q; omega))]; exact h.f
  · refine ((h.r.of_block (Below.block X g (Nat.lt_of_lt_of_le hg h.s))).set 0 (.int .i64 v)).congr fun i hi => ?_
    rw [if_pos (show i = 0 by omega), hv]
theorem c_standing (R S : Int) (a : Option Addr) (n cap : Nat) (w : World) :
    Calls Try.prog 107 #[.agg #[.int .i64 R, .int .i64 S, .slice a n cap]] w fun e w' => e = .returned (.func (.func 145) #[] #[.pointer (some ⟨w.heap.size, 0, none⟩)]) ∧ w' = w.alloc (.cells #[.int .i64 R, .int .i64 S, .slice a n cap] 49) := by
  go_enter Try.func107, Try.ntmps107
  go_wp2
  go_ret
  exact ⟨rfl, rfl⟩
theorem c_lcYes (x : Nat) (w : World) : Calls Try.prog 101 #[.float .f32 x] w fun e w' => e = .returned (.bool true) ∧ w = w' := by
  go_enter Try.func101, Try.ntmps101
  go_wp2
  go_ret
  exact ⟨rfl, rfl⟩
theorem standing_stops (F : Fence) (N : Nat) (hF : F.fn 145) (hro : F.round = none) (hN : 1 ≤ N) (Bl m g : Nat) (a : Option Addr) (n cap : Nat) (hs : Nat → Hd) (zss : List (List Nat)) (hn : n ≤ 16) (hrl : ∀ i, i < n → (rowS zss i).length ≤ 64)
    (w0 w : World) (x0 : Ext w0 w) (h0 : w0.heap.size ≤ g) (hm : w0.heap.size ≤ m) (hbm : Bl < m) (hbg : Bl ≠ g) (h : ReadsS flos w0 a n hs zss) (hB : w.cell? ⟨Bl, 2, none⟩ = some (.slice a n cap)) :
    SeqStopsK F N Try.prog 145 #[.pointer (some ⟨Bl, 0, none⟩)] stE (KpG m g) (fun ys => ys = stAll zss n) (fun _ => True) 1024 w := fun l J Jx W hW _ _ hY hJ =>
  standing1_in F N hF hro hN l Bl m g a n cap hs zss hn hrl J Jx hY W (fun W' hk => ReadsS.kpG h (x0.trans hW) h0 hm hk) (fun W' hk => hk.cell hbm hbg (Ext.some hW hB)) hJ
set_option maxRecDepth 100000 in
set_option maxHeartbeats 4000000 in
theorem c_standingFor_yes (R S : Int) (a : Option Addr) (n cap : Nat) (hs : Nat → Hd) (zss : List (List Nat)) (w : World) (hn : n ≤ 16) (hrl : ∀ i, i < n → (rowS zss i).length ≤ 64) (h : ReadsS flos w a n hs zss) :
    Calls Try.prog 100 #[.agg #[.int .i64 R, .int .i64 S, .slice a n cap], .func (.func 101) #[] #[]] w fun e w' => e = .returned (.int .i64 ((standTo yesP zss n : Nat) : Int)) ∧ Ext w w' := by
  refine (callsIn_wide (n := 6)).1 ?_
  refine callsIn_of_wp_marks Try.func100 rfl trivial ?_ rfl
  simp only [Try.ntmps100, List.size_toArray, List.length_cons, List.length_nil, Nat.reduceAdd, Nat.reduceSub, Array.replicate_succ, Array.replicate_zero, List.push_toArray, List.append_toArray, List.nil_append, List.cons_append]
  gi_wp2_with (refine ⟨trivial, ?_⟩; gi_at_call 107; refine (callsIn_wide.2 (c_standing _ _ _ _ _ _)).mono ?_; rintro e w' ⟨rfl, rfl⟩)
  have BQ := (((Box.alloc_at (w.alloc (.cells #[.int .i64 R, .int .i64 S, .slice a n cap] 49)) #[.func (.func 101) #[] #[]] 95 (b := w.heap.size + 1) (by simp)).past (.cells #[.int .i64 0] 2)).past (.cells #[.int .i64 R, .int .i64 S, .slice a n cap] 49))
  have BL := (Box.alloc_at (((w.alloc (.cells #[.int .i64 R, .int .i64 S, .slice a n cap] 49)).alloc (.cells #[.func (.func 101) #[] #[]] 95)).alloc (.cells #[.int .i64 0] 2)) #[.int .i64 R, .int .i64 S, .slice a n cap] 49 (b := w.heap.size + 1 + 1 + 1) (by simp))
  have RW0 := rowIs_one ((w.alloc (.cells #[.int .i64 R, .int .i64 S, .slice a n cap] 49)).alloc (.cells #[.func (.func 101) #[] #[]] 95)) (.int .i64 0) 2
  have RW := RW0.alloc (.cells #[.int .i64 R, .int .i64 S, .slice a n cap] 49)
  rw [show ((w.alloc (.cells #[.int .i64 R, .int .i64 S, .slice a n cap] 49)).alloc (.cells #[.func (.func 101) #[] #[]] 95)).heap.size = w.heap.size + 1 + 1 by simp] at RW
  have X4 : Ext w ((((w.alloc (.cells #[.int .i64 R, .int .i64 S, .slice a n cap] 49)).alloc (.cells #[.func (.func 101) #[] #[]] 95)).alloc (.cells #[.int .i64 0] 2)).alloc (.cells #[.int .i64 R, .int .i64 S, .slice a n cap] 49)) := by (repeat (first | assumption | exact Ext.refl _ | (with_reducible refine Ext.stepS ?_ (by first | exact Nat.le_refl _ | (simp; done) | (simp; omega)) _) | (with_reducible refine Ext.stepN ?_ _) | (with_reducible refine Ext.stepD ?_) | (with_reducible refine Ext.stepA ?_ _)))
  obtain ⟨W4, hW4⟩ : ∃ W4, ((((w.alloc (.cells #[.int .i64 R, .int .i64 S, .slice a n cap] 49)).alloc (.cells #[.func (.func 101) #[] #[]] 95)).alloc (.cells #[.int .i64 0] 2)).alloc (.cells #[.int .i64 R, .int .i64 S, .slice a n cap] 49)) = W4 := ⟨_, rfl⟩
  have hs4 : W4.heap.size = w.heap.size + 4 := by rw [← hW4]; simp
  have RW' : ((((w.alloc (.cells #[.int .i64 R, .int .i64 S, .slice a n cap] 49)).alloc (.cells #[.func (.func 101) #[] #[]] 95)).alloc (.cells #[.int .i64 0] 2)).alloc (.cells #[.int .i64 R, .int .i64 S, .slice a n cap] 49)).rowIs (w.heap.size + 1 + 1) 2 1 (fun _ => .int .i64 0) := RW
  rw [hW4] at BQ BL RW' X4
  rw [hW4]
  refine wpIn_rangeFunc_ownG rfl (by omega) (gf := 145) (lb := #[.pointer (some ⟨w.heap.size + 1 + 1 + 1, 0, none⟩)]) rfl trivial (enters_of Try.func145 (by kernel_rfl) rfl)
    (standing_stops Fence.wide 5 trivial rfl (by omega) (w.heap.size + 1 + 1 + 1) W4.heap.size (w.heap.size + 1 + 1) a n cap hs zss hn hrl w W4 X4 (by omega) (by omega) (by omega) (by omega) h (BL.cell 2))
    (fun h k => h.trans k) (fun W l o o' hl h h1 h2 => kpG_b W l o o' hl h h1 h2) (Below.refl _ _) (fun _ => rfl)
    (StI w W4.heap.size (w.heap.size + 1) (w.heap.size + 1 + 1) 2 (.func (.func 101) #[] #[]) yesP) (fun _ _ _ => False)
    (StI.ownFrom (by omega) (by omega) (by omega)) (fun _ _ _ _ _ hs _ _ => hs)
    ⟨Nat.le_refl _, BQ.cell 0, RW', X4⟩
    (fun x => { tmps := #[.agg #[.int .i64 R, .int .i64 S, .slice a n cap], .func (.func 101) #[] #[], .pointer (some ⟨w.heap.size, 0, none⟩), .pointer (some ⟨w.heap.size + 1, 0, none⟩), .int .i64 0, .pointer (some ⟨w.heap.size + 1 + 1, 0, none⟩), .float .f32 x.1.1, .int .i64 ((2 ^ x.1.2 : Nat) : Int), .agg #[.int .i64 R, .int .i64 S, .slice a n cap], .func (.func 145) #[] #[.pointer (some ⟨w.heap.size + 1 + 1 + 1, 0, none⟩)], .float .f32 x.1.1, .int .i64 ((2 ^ x.1.2 : Nat) : Int), undef, undef, undef, undef, undef, undef, undef], defers := [] }) ?assign ?body ?done ?stop
  case assign =>
    intro l x W K hK
    unfold stE
    gi_wp2
    exact hK
  case body =>
    rintro l pre x W hI hlen
    have a1 := hI.f
    obtain ⟨s, hs'⟩ : ∃ s, stSum yesP pre = s := ⟨_, rfl⟩
    obtain ⟨M, hM⟩ : ∃ M : Nat, 2 ^ x.1.2 = M := ⟨_, rfl⟩
    have hsb : s ≤ 33554432 := by have h1 := stSum_le yesP pre; rw [hs'] at h1; omega
    have hMb : M ≤ 32768 := by rw [← hM]; exact Nat.pow_le_pow_right (n := 2) (by decide) (show x.1.2 ≤ 15 by have := x.2; omega)
    have HV := Lib.hid (show ((stSum yesP (pre ++ [x]) : Nat) : Int) = (s : Int) + (M : Int) by
      rw [stSum_snoc, hs', hM]
      show ((s + M : Nat) : Int) = _
      omega)
    have a2 := hI.r.cell (i := 0) (by omega)
    have a3 := hI.r.frozen 0
    rw [hs'] at a2
    rw [hM]
    have HI := Lib.hid hI
    clear hI hs' hM hlen
    gi_wp2_with (refine ⟨trivial, ?_⟩; gi_at_call 101; refine (CallsIn.inRound l (callsIn_wide.2 (c_lcYes _ _))).mono ?_; rintro e w' ⟨rfl, rfl⟩)
    all_goals
      clear a1 a2 a3
      have st := fun (W1 : World) (X : Ext _ W1) => HI.out.step (by omega) (by omega) (by omega) (by omega) x X HV.out
      first | exact st _ (Ext.refl _) | exact st _ (Ext.drew _) | exact st _ (Ext.drewN _ _)
  case done =>
    rintro D ys W hD rfl hI hK
    have a2 := hI.r.cell (i := 0) (by omega)
    rw [stSum_all yesP zss n hn] at a2
    gi_wp2
    refine ⟨by simp, .inl ⟨_, _, rfl, run_takeDeferred hK, ?_⟩⟩
    have hExt : Ext w (W.putObj D (Obj.deferred none)) := hI.b.grown (grownBy_putObj' W D _) (Below.size hI.b) (fun k e => by cases e; omega)
    exact ⟨_, results_tmp rfl _ _ _, rfl, hExt⟩
  case stop =>
    rintro D c pre W _ _ h _
    exact h.elim
set_option maxHeartbeats 2000000 in
theorem c_impl_LevelsCount (R S : Int) (a : Option Addr) (n cap : Nat) (hs : Nat → Hd) (zss : List (List Nat)) (w : World) {rz : Int} {rb : Bool} (hv : lcV R S zss = (rz, rb)) (hl : n + totS zss n ≤ 1048576) (hb : BitsS zss) (h : ReadsS flos w a n hs zss) :
    Calls Try.prog 42 #[.agg #[.int .i64 R, .int .i64 S, .slice a n cap]] w fun e w' => e = .returned (.tuple #[.int .i64 rz, .bool rb]) ∧ Ext w w' := by
  have hz := h.len
  subst hz
  have BX := Lib.hid (Box.alloc w #[.int .i64 R, .int .i64 S, .slice a zss.length cap] 49)
  have X0 := Lib.hid (Ext.alloc w (.cells #[.int .i64 R, .int .i64 S, .slice a zss.length cap] 49))
  have H := Lib.hid (h.on X0.out)
  have HBT := Lib.hid hb
  clear h hb
  cases hm : levB R S zss
  · have hv2 : (0, false) = (rz, rb) := by rw [← hv]; unfold lcV manyL; rw [hm]; rfl
    cases hv2
    have HM := Lib.hid hm
    clear hm hv
    go_enter Try.func42, Try.ntmps42
    go_wp2_with fail
    refine (c_impl_ValidLevels R S a _ cap hs zss _ HM.out hl HBT.out H.out).mono ?_; rintro e u1 ⟨rfl, x'⟩
    have X := Lib.hid (X0.out.trans x')
    clear x'
    go_wp2
    go_ret2
    exact ⟨rfl, X.out⟩
  · have HM := Lib.hid hm
    have LO := Lib.hid (lev_ok hm)
    obtain ⟨A, hA⟩ : ∃ A, standTo yesP zss zss.length = A := ⟨_, rfl⟩
    have HA := Lib.hid hA
    have hsb := standTo_le yesP zss zss.length LO.out.r
    have hpw : 2 ^ zss.length ≤ 65536 := Nat.pow_le_pow_right (n := 2) (by decide) (show zss.length ≤ 16 from LO.out.n)
    rw [hA] at hsb
    have hAb : A ≤ 4194304 := by omega
    by_cases hq : A ≤ 2000000
    · have hv2 : ((A : Int), true) = (rz, rb) := by rw [← hv]; unfold lcV manyL; rw [hm, hA, decide_eq_true hq]; rfl
      cases hv2
      have hqI : ¬ (2000000 : Int) < (A : Int) := by omega
      clear hm hv hA hsb hpw
      go_enter Try.func42, Try.ntmps42
      go_wp2_with fail
      refine (c_impl_ValidLevels R S a _ cap hs zss _ HM.out hl HBT.out H.out).mono ?_; rintro e u1 ⟨rfl, x'⟩
      have X := Lib.hid x'
      obtain ⟨f0, f1, f2⟩ := (BX.out.on x').three
      clear x'
      go_wp2_with fail
      refine (c_standingFor_yes R S a _ cap hs zss _ LO.out.n LO.out.r (H.out.on X.out)).mono ?_; rw [HA.out]; rintro e u2 ⟨rfl, x'⟩
      have X2 := Lib.hid ((X0.out.trans X.out).trans x')
      clear x' f0 f1 f2
      go_wp2
      go_ret2
      exact ⟨rfl, X2.out⟩
    · have hv2 : (0, false) = (rz, rb) := by rw [← hv]; unfold lcV manyL; rw [hm, hA, decide_eq_false hq]; rfl
      cases hv2
      have hqI : (2000000 : Int) < (A : Int) := by omega
      clear hm hv hA hsb hpw
      go_enter Try.func42, Try.ntmps42
      go_wp2_with fail
      refine (c_impl_ValidLevels R S a _ cap hs zss _ HM.out hl HBT.out H.out).mono ?_; rintro e u1 ⟨rfl, x'⟩
      have X := Lib.hid x'
      obtain ⟨f0, f1, f2⟩ := (BX.out.on x').three
      clear x'
      go_wp2_with fail
      refine (c_standingFor_yes R S a _ cap hs zss _ LO.out.n LO.out.r (H.out.on X.out)).mono ?_; rw [HA.out]; rintro e u2 ⟨rfl, x'⟩
      have X2 := Lib.hid ((X0.out.trans X.out).trans x')
      clear x' f0 f1 f2
      go_wp2
      go_ret2
      exact ⟨rfl, X2.out⟩
end Go.Proofs.Ytiimadklflmpcaa
