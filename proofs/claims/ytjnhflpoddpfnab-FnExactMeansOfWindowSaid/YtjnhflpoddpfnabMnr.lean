/- The means of the last ones of each index, by the program. -/
import Derived.Test.YtjnhflpoddpfnabMnp
import Derived.Test.YtjnhflpoddpfnabMnq
import Derived.Test.YtjnhflpoddpfnabLor
namespace Go.Proofs.Ytjnhflpoddpfnab
open Go.ChangeShapes Go.WideShapes Go.ChangeAt Go.RowKit Go.Shelf Go.Proofs.Ytjnhflpoddpfnab.Flo
set_option linter.unusedVariables false
attribute [local go_sem] Oper.semAt_some run_store_float
def contG (n : Nat) (F : Nat → Nat) (pre : List (At n)) (i : Nat) : Value := if pre.any (fun x => x.1 == i) then .float .f32 (F i) else .float .f32 0
theorem any_snoc (n : Nat) (pre : List (At n)) (x : At n) (i : Nat) : (pre ++ [x]).any (fun y => y.1 == i) = (pre.any (fun y => y.1 == i) || decide (i = x.1)) := by
  rw [List.any_append]
  congr 1
  by_cases e : i = x.1
  · subst e; simp
  · rw [decide_eq_false e]; simp; exact fun h => e h.symm
theorem contG_snoc (n : Nat) (F : Nat → Nat) (pre : List (At n)) (x : At n) (f i : Nat) : contG n (fun j => if j = x.1 then f else F j) (pre ++ [x]) i = if i = x.1 then .float .f32 f else contG n F pre i := by
  unfold contG
  rw [any_snoc]
  by_cases e : i = x.1
  · rw [decide_eq_true e, Bool.or_true, if_pos rfl]; dsimp only; rw [if_pos e, if_pos e]
  · rw [decide_eq_false e, Bool.or_false]; dsimp only; rw [if_neg e, if_neg e]
theorem uptoA_any (n i : Nat) (hi : i < n) : (uptoA n n (Nat.le_refl _)).any (fun x => x.1 == i) = true := by
  rw [List.any_eq_true]
  exact ⟨⟨i, hi⟩, uptoA_mem n n (Nat.le_refl _) i hi, by simp⟩
theorem contG_all (n : Nat) (F : Nat → Nat) (i : Nat) (hi : i < n) : contG n F (uptoA n n (Nat.le_refl _)) i = .float .f32 (F i) := by
  unfold contG; rw [if_pos (uptoA_any n i hi)]
/-- between two rounds -/
structure MnI (w : World) (m p q g : Nat) (t : TypeId) (fv0 : Value) (n : Nat) (V : Nat → Option Nat) (pre : List (At n)) (W : World) : Prop where
  s : m ≤ W.heap.size
  a : W.cell? ⟨p, 0, none⟩ = some fv0
  ts : W.cell? ⟨q, 0, none⟩ = some (.slice (some ⟨g, 0, none⟩) n n)
  r : ∃ F : Nat → Nat, W.rowIs g t n (contG n F pre) ∧ ∀ i, pre.any (fun x => x.1 == i) = true → fv .f32 (F i) = V i ∧ F i < 4294967296
  b : Below w.heap.size w W
theorem MnI.ownFrom {w : World} {m p q g : Nat} {t : TypeId} {fv0 : Value} {n : Nat} {V : Nat → Option Nat} (hp : p < m) (hq : q < m) (hg : g < m) (hm : w.heap.size ≤ m) : OwnFrom m (MnI w m p q g t fv0 n V) := fun pre W W' row h hgr hr => by
  have hk : ∀ k, k < m → W'.heap[k]? = W.heap[k]? := fun k hk => hgr.block k (Nat.lt_of_lt_of_le hk h.s) (fun e => by have := (hr k e.symm).1; omega)
  obtain ⟨F, h1, h2⟩ := h.r
  exact ⟨Nat.le_trans h.s hgr.size, by rw [World.cell?_of_block (w := W) (hk p hp)]; exact h.a, by rw [World.cell?_of_block (w := W) (hk q hq)]; exact h.ts, ⟨F, h1.of_block (hk g hg), h2⟩, h.b.grown hgr (Below.size h.b) (fun k e => Nat.le_trans hm (hr k e).1)⟩
theorem MnI.step {w : World} {m p q g : Nat} {t : TypeId} {fv0 : Value} {n : Nat} {V : Nat → Option Nat} {pre : List (At n)} {W W1 : World} (hp : p < m) (hq : q < m) (hg : g < m) (hgw : w.heap.size ≤ g) (pg : p ≠ g) (qg : q ≠ g) (h : MnI w m p q g t fv0 n V pre W) (x : At n) (X : Ext W W1) {f : Nat} (hv : fv .f32 f = V x.1) (hlt : f < 4294967296) :
    KeepsFrom m W (W1.setCell ⟨g, x.1, none⟩ (.float .f32 f)) ∧ KpG m g W (W1.setCell ⟨g, x.1, none⟩ (.float .f32 f)) ∧ MnI w m p q g t fv0 n V (pre ++ [x]) (W1.setCell ⟨g, x.1, none⟩ (.float .f32 f)) := by
  have T : Touch g (g + 1) W (W1.setCell ⟨g, x.1, none⟩ (.float .f32 f)) := (Touch.of_ext X g (g + 1)).trans (Touch.setCell _ (a := ⟨g, x.1, none⟩) (Nat.le_refl _) (Nat.lt_succ_self _) _)
  obtain ⟨F, h1, h2⟩ := h.r
  refine ⟨(keepsFrom_ext X).trans ((KeepsOthers.setCell _ _ _).from _), KpG.of_touch T h.s, ⟨Nat.le_trans h.s T.size, ?_, ?_, ⟨fun j => if j = x.1 then f else F j, ?_, ?_⟩, Touch.below h.b T hgw (Below.size h.b)⟩⟩
  · rw [World.cell?_of_block (w := W) (T.block p (Nat.lt_of_lt_of_le hp h.s) (by show p < g ∨ g + 1 ≤ p; omega))]; exact h.a
  · rw [World.cell?_of_block (w := W) (T.block q (Nat.lt_of_lt_of_le hq h.s) (by show q < g ∨ g + 1 ≤ q; omega))]; exact h.ts
  · refine ((h1.of_block (Below.block X g (Nat.lt_of_lt_of_le hg h.s))).set x.1 (.float .f32 f)).congr fun i hi => ?_
    rw [contG_snoc]
  · intro i hi
    rw [any_snoc] at hi
    dsimp only
    by_cases e : i = x.1
    · rw [if_pos e, e]; exact ⟨hv, hlt⟩
    · rw [decide_eq_false e, Bool.or_false] at hi
      rw [if_neg e]; exact h2 i hi
/-- what is told of each index -/
def RetMn (n : Nat) (V : Nat → Option Nat) (w : World) (e : Ending) (w' : World) : Prop := ∃ (F : Nat → Nat) (a : Option Addr) (c : Nat), e = .returned (.slice a n c) ∧ Own 40 w' w.heap.size w'.heap.size a n c (flos (bitsOfN F n)) ∧ (∀ i, i < n → fv .f32 (F i) = V i ∧ F i < 4294967296) ∧ Ext w w'
set_option maxRecDepth 100000 in
set_option maxHeartbeats 4000000 in
theorem c_tellLast_mean (b off n cap long : Nat) (zs : List Nat) (w : World) (h1 : 1 ≤ n) (hn : n ≤ 128) (hnc : n ≤ cap) (hl1 : 1 ≤ long) (hl2 : long ≤ 128) (h : Reads w (some ⟨b, off, none⟩) n (flos zs)) :
    Calls Try.prog 59 #[.slice (some ⟨b, off, none⟩) n cap, .int .i64 (long : Int), .func (.func 60) #[] #[]] w (RetMn n (mnV zs long) w) := by
  obtain ⟨hz, hr⟩ := h.flo
  have hcs : ∀ i, i < n → w.cell? ⟨b, off + i, none⟩ = some (.float .f32 (zs[i]?.getD 0)) := by
    rcases hr with h0 | ⟨b', off', he, hc⟩
    · omega
    · cases he; exact hc
  refine (callsIn_wide (n := 6)).1 ?_
  refine callsIn_of_wp_marks Try.func59 rfl trivial ?_ rfl
  simp only [Try.ntmps59, List.size_toArray, List.length_cons, List.length_nil, Nat.reduceAdd, Nat.reduceSub, Array.replicate_succ, Array.replicate_zero, List.push_toArray, List.append_toArray, List.nil_append, List.cons_append]
  have hmk := run_make_row' (P := Try.prog) 29 40 (.float .f32 0) 4 Try.underlying29 info_f32 rfl .i64 .i64 n (by omega) (by omega)
  gi_wp2_with (refine ⟨trivial, ?_⟩; gi_at_call 94; refine (callsIn_wide.2 (c_lastOnesG _ _ _ _ _)).mono ?_; rintro e w' ⟨rfl, rfl⟩)
  have BA := (((((Box.alloc w #[.func (.func 60) #[] #[]] 55).past (.cells (madeCells #[.float .f32 0] n) 40)).past (.cells #[.slice (some ⟨w.heap.size + 1, 0, none⟩) n n] 29)).past (.cells #[.slice (some ⟨b, off, none⟩) n cap] 29)).past (.cells #[.int .i64 (long : Int)] 2))
  have BT := (((Box.alloc_at ((w.alloc (.cells #[.func (.func 60) #[] #[]] 55)).alloc (.cells (madeCells #[.float .f32 0] n) 40)) #[.slice (some ⟨w.heap.size + 1, 0, none⟩) n n] 29 (b := w.heap.size + 1 + 1) (by simp)).past (.cells #[.slice (some ⟨b, off, none⟩) n cap] 29)).past (.cells #[.int .i64 (long : Int)] 2))
  have BS := ((Box.alloc_at (((w.alloc (.cells #[.func (.func 60) #[] #[]] 55)).alloc (.cells (madeCells #[.float .f32 0] n) 40)).alloc (.cells #[.slice (some ⟨w.heap.size + 1, 0, none⟩) n n] 29)) #[.slice (some ⟨b, off, none⟩) n cap] 29 (b := w.heap.size + 1 + 1 + 1) (by simp)).past (.cells #[.int .i64 (long : Int)] 2))
  have BL := (Box.alloc_at ((((w.alloc (.cells #[.func (.func 60) #[] #[]] 55)).alloc (.cells (madeCells #[.float .f32 0] n) 40)).alloc (.cells #[.slice (some ⟨w.heap.size + 1, 0, none⟩) n n] 29)).alloc (.cells #[.slice (some ⟨b, off, none⟩) n cap] 29)) #[.int .i64 (long : Int)] 2 (b := w.heap.size + 1 + 1 + 1 + 1) (by simp))
  have RW := ((((World.rowIs_made (w.alloc (.cells #[.func (.func 60) #[] #[]] 55)) (.float .f32 0) n 40).alloc (.cells #[.slice (some ⟨w.heap.size + 1, 0, none⟩) n n] 29)).alloc (.cells #[.slice (some ⟨b, off, none⟩) n cap] 29)).alloc (.cells #[.int .i64 (long : Int)] 2))
  rw [show (w.alloc (.cells #[.func (.func 60) #[] #[]] 55)).heap.size = w.heap.size + 1 by simp] at RW
  have X5 : Ext w (((((w.alloc (.cells #[.func (.func 60) #[] #[]] 55)).alloc (.cells (madeCells #[.float .f32 0] n) 40)).alloc (.cells #[.slice (some ⟨w.heap.size + 1, 0, none⟩) n n] 29)).alloc (.cells #[.slice (some ⟨b, off, none⟩) n cap] 29)).alloc (.cells #[.int .i64 (long : Int)] 2)) := by (repeat (first | assumption | exact Ext.refl _ | (with_reducible refine Ext.stepS ?_ (by first | exact Nat.le_refl _ | (simp; done) | (simp; omega)) _) | (with_reducible refine Ext.stepN ?_ _) | (with_reducible refine Ext.stepD ?_) | (with_reducible refine Ext.stepA ?_ _)))
  obtain ⟨W5, hW5⟩ : ∃ W5, (((((w.alloc (.cells #[.func (.func 60) #[] #[]] 55)).alloc (.cells (madeCells #[.float .f32 0] n) 40)).alloc (.cells #[.slice (some ⟨w.heap.size + 1, 0, none⟩) n n] 29)).alloc (.cells #[.slice (some ⟨b, off, none⟩) n cap] 29)).alloc (.cells #[.int .i64 (long : Int)] 2)) = W5 := ⟨_, rfl⟩
  have hs5 : W5.heap.size = w.heap.size + 5 := by rw [← hW5]; simp
  rw [hW5] at BA BT BS BL RW X5
  rw [hW5]
  refine wpIn_rangeFunc_ownG rfl (by omega) (gf := 113) (lb := #[.pointer (some ⟨w.heap.size + 1 + 1 + 1, 0, none⟩), .pointer (some ⟨w.heap.size + 1 + 1 + 1 + 1, 0, none⟩)]) rfl trivial (enters_of Try.func113 (by kernel_rfl) rfl)
    (lastOnesG_stops Fence.wide 5 trivial rfl (by omega) (w.heap.size + 1 + 1 + 1) (w.heap.size + 1 + 1 + 1 + 1) W5.heap.size (w.heap.size + 1) b off n cap long hn hnc hl1 hl2 (by omega) (by omega) (by omega) (by omega) W5 (BS.cell 0) (BL.cell 0))
    (fun h k => h.trans k) (fun W l o o' hl h h1 h2 => kpG_b W l o o' hl h h1 h2) (Below.refl _ _) (fun _ => rfl)
    (MnI w W5.heap.size w.heap.size (w.heap.size + 1 + 1) (w.heap.size + 1) 40 (.func (.func 60) #[] #[]) n (mnV zs long)) (fun _ _ _ => False)
    (MnI.ownFrom (by omega) (by omega) (by omega) (by omega)) (fun _ _ _ _ _ hs _ _ => hs)
    ⟨Nat.le_refl _, BA.cell 0, BT.cell 0, ⟨fun _ => 0, RW.congr fun i hi => by unfold contG; rfl, fun i hi => by cases hi⟩, X5⟩
    (fun x => { tmps := #[.slice (some ⟨b, off, none⟩) n cap, .int .i64 (long : Int), .func (.func 60) #[] #[], undef, undef, .pointer (some ⟨w.heap.size, 0, none⟩), .slice none 0 0, .pointer (some ⟨w.heap.size + 1 + 1, 0, none⟩), .int .i64 (x.1 : Int), lastV b off long x.1, .slice (some ⟨b, off, none⟩) n cap, .int .i64 (n : Int), .slice (some ⟨w.heap.size + 1, 0, none⟩) n n, .slice (some ⟨b, off, none⟩) n cap, .int .i64 (long : Int), .func (.func 113) #[] #[.pointer (some ⟨w.heap.size + 1 + 1 + 1, 0, none⟩), .pointer (some ⟨w.heap.size + 1 + 1 + 1 + 1, 0, none⟩)], .int .i64 (x.1 : Int), lastV b off long x.1, undef, undef, undef, undef, undef, undef, undef], defers := [] }) ?assign ?body ?done ?stop
  case assign =>
    intro l x W K hK
    unfold lastE
    gi_wp2
    exact hK
  case body =>
    rintro l pre x W hI _
    have a1 := hI.a
    have a2 := hI.ts
    obtain ⟨F, hrow, hF⟩ := hI.r
    have a3 := hrow.cell x.2
    have a4 := hrow.frozen x.1
    have hxn : (x.1 : Int) < (n : Int) := by have := x.2; omega
    have hx0 : (0 : Int) ≤ (x.1 : Int) := by omega
    have HRD := Lib.hid (reads_lastG hz (fun i hi => (Ext.some hI.b (hcs i hi))) long x.1 x.2)
    obtain ⟨v, hv⟩ : ∃ v, meanV (lastG zs long x.1) = v := ⟨_, rfl⟩
    have HV := Lib.hid hv
    have HI := Lib.hid hI
    have HROW := Lib.hid hrow
    have hx3 : x.1 < n := x.2
    have hmx : Try.prog.follows .mixedOrders = true := by kernel_rfl
    unfold lastV
    gi_wp2
    gi_region_with_o (refine ⟨trivial, ?_⟩; gi_at_call 60; refine (CallsIn.inRound l (callsIn_wide.2 (c_impl_meanOf _ _ _ _ _ _ HV.out (by omega) (by omega) (HRD.out.on (by (repeat (first | assumption | exact Ext.refl _ | (with_reducible refine Ext.stepS ?_ (by first | exact Nat.le_refl _ | (simp; done) | (simp; omega)) _) | (with_reducible refine Ext.stepN ?_ _) | (with_reducible refine Ext.stepD ?_) | (with_reducible refine Ext.stepA ?_ _)))))))).mono ?_; rintro e w' ⟨fm, rfl, hfm, hfl, x'⟩; have HFM := Lib.hid (And.intro hfm hfl); have XW : Ext W w' := Ext.trans (by (repeat (first | assumption | exact Ext.refl _ | (with_reducible refine Ext.stepS ?_ (by first | exact Nat.le_refl _ | (simp; done) | (simp; omega)) _) | (with_reducible refine Ext.stepN ?_ _) | (with_reducible refine Ext.stepD ?_) | (with_reducible refine Ext.stepA ?_ _)))) x'; have b1 := XW.some a1; have b2 := XW.some a2; have b3 := XW.some a3; have b4 := (HROW.out.of_block (Below.block XW _ HROW.out.lt)).frozen x.1; clear x' hfm hfl)
    all_goals gi_wp2
    all_goals (try go_bits)
    all_goals
      clear a1 a2 a3 a4 b1 b2 b3 b4 HRD hmx
      have st := fun (W1 : World) (X : Ext W W1) => HI.out.step (by omega) (by omega) (by omega) (by omega) (by omega) (by omega) x X (by rw [HFM.out.1]; exact HV.out.symm) HFM.out.2
      first | exact st _ XW | exact st _ (XW.trans (Ext.drew _)) | exact st _ (XW.trans (Ext.drewN _ _)) | exact st _ ((XW.trans (Ext.drew _)).trans (Ext.drew _))
  case done =>
    rintro D ys W hD rfl hI hK
    have a2 := hI.ts
    gi_wp2
    refine ⟨by simp, .inl ⟨_, _, rfl, run_takeDeferred hK, ?_⟩⟩
    have hDg : w.heap.size + 1 < D := by omega
    obtain ⟨F, hr0, hF⟩ := hI.r
    have hgb := (grownBy_putObj' W D (Obj.deferred none)).block (w.heap.size + 1) hr0.lt (fun e => by cases e; omega)
    have hrow := hr0.of_block hgb
    have hExt : Ext w (W.putObj D (Obj.deferred none)) := hI.b.grown (grownBy_putObj' W D _) (Below.size hI.b) (fun k e => by cases e; omega)
    exact ⟨_, results_tmp rfl _ _ _, F, some ⟨w.heap.size + 1, 0, none⟩, n, rfl, own_made (by rw [flos_length, bitsOfN_length]) (by omega) hrow (fun i hi => by
      rw [flos_get _ i (by rw [bitsOfN_length]; exact hi), contG_all n _ i hi, bitsOfN_get F n i hi]; rfl), fun i hi => hF i (uptoA_any n i hi), hExt⟩
  case stop =>
    rintro D c pre W _ _ h _
    exact h.elim
end Go.Proofs.Ytjnhflpoddpfnab
