/- slices.Values, slices.Collect, slices.Sorted at []int64. -/
import Derived.RangeFuncNested
import Derived.RangeFuncBound
import Derived.RangeFuncCalls
import Derived.RangeFuncLeaves
import Derived.RangeFuncBox
import Derived.Maps.AppendAt
import Derived.Shelf.Abstract
import Derived.Shelf.RegionOpen
import Derived.WalkKit
import Derived.OwnWalkIn
import Derived.TacticsInMore
import Derived.LoopNIn
import Derived.LoopIn
import Derived.Test.YtplngjbllllanaaDoorSrw
import Derived.Test.YtplngjbllllanaaDoorRow
import Derived.Test.YtplngjbllllanaaDoorKin
namespace Go.Proofs.YtplngjbllllanaaDoor
open Go.ChangeShapes Go.WideShapes Go.ChangeAt Go.RowKit Go.Shelf
set_option linter.unusedVariables false
attribute [local go_sem] Oper.semAt_some
theorem take_snocV (zs : List Int) (k : Nat) (h : k < zs.length) : zs.take (k + 1) = zs.take k ++ [zs[k]?.getD 0] := by
  rw [List.take_succ_eq_append_getElem h, List.getElem?_eq_getElem h]; rfl
theorem reads_below {n₀ : Nat} {w0 W W' : World} {n : Nat} {a : Option Addr} {vs : List Value} (h : Reads w0 a n vs) (x : Ext w0 W) (h0 : w0.heap.size ≤ n₀) (hk : Below n₀ W W') : Reads W' a n vs := by
  refine ⟨h.1, ?_⟩
  rcases h.2 with h1 | ⟨b, off, rfl, hc⟩
  · exact .inl h1
  · exact .inr ⟨b, off, rfl, fun i hi => by
      have e : vs[i]? = some (vs[i]'(by rw [h.1]; exact hi)) := List.getElem?_eq_getElem _
      have h1 := hc i hi
      rw [e] at h1 ⊢
      have hb : b < w0.heap.size := World.block_lt_of_cell? w0 ⟨b, off + i, none⟩ h1
      exact (Below.cell (p := ⟨b, off + i, none⟩) hk (Nat.lt_of_lt_of_le hb h0)).trans ((x.cell b _ hb).trans h1)⟩
theorem c_Values (a : Option Addr) (n cap : Nat) (w : World) :
    Calls Tryd.prog 29 #[.slice a n cap] w fun e w' => e = .returned (.func (.func 42) #[] #[.pointer (some ⟨w.heap.size, 0, none⟩)]) ∧ w' = w.alloc (.cells #[.slice a n cap] 22) := by
  go_enter Tryd.func29, Tryd.ntmps29
  go_wp2
  go_ret
  exact ⟨rfl, rfl⟩
set_option maxRecDepth 100000 in
set_option maxHeartbeats 2000000 in
theorem values1_in (F : Fence) (N : Nat) (hF : F.fn 42) (hro : F.round = none) (hN : 1 ≤ N) (l Bl n₀ : Nat) (a : Option Addr) (n cap : Nat) (zs : List Int) (hz : zs.length = n) (hn : n ≤ 1048576) (J Jx : List Int → World → Prop)
    (hY : ∀ pre x W, J pre W → pre.length < n → YieldAt F (N - 1) Tryd.prog l #[.int .i64 x] W fun e W' =>
      (e = .returned (.bool true) ∧ J (pre ++ [x]) W' ∧ Below n₀ W W') ∨ (e = .returned (.bool false) ∧ Jx (pre ++ [x]) W'))
    (W : World) (hRd : ∀ W', Below n₀ W W' → Reads W' a n (ints zs)) (hBl : W.cell? ⟨Bl, 0, none⟩ = some (.slice a n cap)) (h0 : J [] W) :
    CallsIn F N Tryd.prog 42 #[.func (.yield l) #[] #[], .pointer (some ⟨Bl, 0, none⟩)] W fun e W' => (∃ v, e = .returned v) ∧
      ((∃ ys, ys = zs ∧ J ys W') ∨ (∃ pre, True ∧ Jx pre W')) := by
  have HRd := Lib.hid hRd
  have HY := Lib.hid hY
  have HZ := Lib.hid hz
  have hnI : (n : Int) ≤ 1048576 := by omega
  clear hRd hY hz
  refine callsIn_of_wp Tryd.func42 rfl hF ?_ hro
  simp only [Tryd.ntmps42, List.size_toArray, List.length_cons, List.length_nil, Nat.reduceAdd, Nat.reduceSub, Array.replicate_succ, Array.replicate_zero, List.push_toArray, List.append_toArray, List.nil_append, List.cons_append]
  gi_wp2
  gi_loopw [7] (fun i wr => ∃ k : Nat, k ≤ n ∧ i = .int .i64 k ∧ J (zs.take k) wr ∧ Below n₀ W wr)
    (fun i _ => n - (intOf i).toNat)
  case atStart => exact ⟨0, Nat.zero_le _, rfl, h0, Below.refl _ _⟩
  case round =>
    obtain ⟨k, hk, rfl, hJs, hnx⟩ := hrel
    have HK := Lib.hid hnx
    have HJ := Lib.hid hJs
    clear hnx hJs
    by_cases hlt : k < n
    · have hltI : (k : Int) < (n : Int) := by omega
      rcases (HRd.out wr HK.out).int.2 with h1 | ⟨b, off, rfl, hc⟩
      · omega
      have cz := hc k hlt
      obtain ⟨x, hx⟩ : ∃ x, zs[k]?.getD 0 = x := ⟨_, rfl⟩
      have HS := Lib.hid (show zs.take (k + 1) = zs.take k ++ [x] by rw [take_snocV zs k (by have := HZ.out; omega), hx])
      rw [hx] at cz
      obtain ⟨fn, tmps, assign, body, hy, hR⟩ := HY.out _ x wr HJ.out (by rw [List.length_take]; omega)
      clear hc hx
      gi_wp2
      refine hR.mono ?_
      rintro e W3 (⟨rfl, hJ3, hk3⟩ | ⟨rfl, hJx3⟩)
      · gi_wp2
        go_roundw
        case rel => exact ⟨k + 1, by omega, by first | rfl | simp | go_num, by rw [HS.out]; exact hJ3, HK.out.trans hk3⟩
        case measure => simp [intOf]; omega
      · gi_wp2
        refine bodyPost_ret (results_none rfl _ _ _) rfl ?_
        exact ⟨⟨_, rfl⟩, .inr ⟨_, trivial, hJx3⟩⟩
    · have hkn : k = n := by omega
      subst hkn
      have hlt' : ¬ (k : Int) < (k : Int) := by omega
      have HS := Lib.hid (show zs.take k = zs by rw [List.take_of_length_le (by have := HZ.out; omega)])
      rw [HS.out] at HJ
      gi_wp2
      go_end0
      first | exact ⟨⟨_, rfl⟩, .inl ⟨_, rfl, HJ.out⟩⟩ | exact ⟨⟨_, rfl⟩, .inl HJ.out⟩ | exact .inl HJ.out | exact .inl ⟨_, rfl, HJ.out⟩
theorem values_stops (F : Fence) (N : Nat) (hF : F.fn 42) (hro : F.round = none) (hN : 1 ≤ N) (Bl n₀ : Nat) (a : Option Addr) (n cap : Nat) (zs : List Int) (hn : n ≤ 1048576)
    (w0 w : World) (x0 : Ext w0 w) (h0 : w0.heap.size ≤ n₀) (h : Reads w0 a n (ints zs)) (hB : w.cell? ⟨Bl, 0, none⟩ = some (.slice a n cap)) :
    SeqStopsK F N Tryd.prog 42 #[.pointer (some ⟨Bl, 0, none⟩)] (fun x : Int => #[.int .i64 x]) (Below n₀) (fun ys => ys = zs) (fun _ => True) n w := fun l J Jx W hW _ _ hY hJ =>
  values1_in F N hF hro hN l Bl n₀ a n cap zs h.int.1 hn J Jx hY W (fun W' hk => reads_below h (x0.trans hW) h0 hk) (Ext.some hW hB) hJ
set_option maxRecDepth 100000 in
set_option maxHeartbeats 4000000 in
theorem c_AppendSeq (Bl : Nat) (a : Option Addr) (n cap : Nat) (zs : List Int) (w : World) (hn : n ≤ 1048576) (h : Reads w a n (ints zs)) (hB : w.cell? ⟨Bl, 0, none⟩ = some (.slice a n cap)) :
    Calls Tryd.prog 47 #[.slice none 0 0, .func (.func 42) #[] #[.pointer (some ⟨Bl, 0, none⟩)]] w fun e w' => (∃ v, e = .returned v ∧ w'.ownsRow w.heap.size 2 1 v n (ints zs)) ∧ Ext w w' := by
  obtain ⟨i0, hi, hz0, hz1, hz2⟩ := info_parts info_i64
  have hzl := h.int.1
  refine (callsIn_wide (n := 6)).1 ?_
  refine callsIn_of_wp_marks Tryd.func47 rfl trivial ?_ rfl
  simp only [Tryd.ntmps47, List.size_toArray, List.length_cons, List.length_nil, Nat.reduceAdd, Nat.reduceSub, Array.replicate_succ, Array.replicate_zero, List.push_toArray, List.append_toArray, List.nil_append, List.cons_append]
  gi_wp2
  obtain ⟨W0, hW0⟩ : ∃ W0, w.alloc (.cells #[.slice none 0 0] 22) = W0 := ⟨_, rfl⟩
  have hs0 : W0.heap.size = w.heap.size + 1 := by rw [← hW0]; simp
  have X0 : Ext w W0 := by rw [← hW0]; exact Ext.alloc _ _
  have hbx : Boxed W0 w.heap.size 22 (.slice none 0 0) := by rw [← hW0]; exact Boxed.new _ _ _
  rw [hW0]
  refine wpIn_rangeFunc_ownG rfl (by omega) (gf := 42) (lb := #[.pointer (some ⟨Bl, 0, none⟩)]) rfl trivial (enters_of Tryd.func42 (by kernel_rfl) rfl)
    (values_stops Fence.wide 5 trivial rfl (by omega) Bl w.heap.size a n cap zs hn w W0 X0 (Nat.le_refl _) h (Ext.some X0 hB))
    belowK_t (belowK_b (by omega)) (Below.refl _ _) (fun _ => rfl)
    (fun pre W => (∃ v, Boxed W w.heap.size 22 v ∧ W.ownsRow w.heap.size 2 1 v pre.length (ints pre) ∧ True) ∧ Below w.heap.size w W) (fun _ _ _ => False)
    (OwnFrom.and (Own.from (holdsRow_own w.heap.size w.heap.size 22 2 1 (fun pre => pre.length) (fun pre => ints pre) (fun _ _ => True)) _) (ownFrom_below (Nat.le_refl _) (by omega))) (fun _ _ _ _ _ hs _ _ => hs)
    ⟨⟨_, hbx, World.ownsRow_nil _ _ _ _, trivial⟩, X0⟩
    (fun x => { tmps := #[.slice none 0 0, .func (.func 42) #[] #[.pointer (some ⟨Bl, 0, none⟩)], .pointer (some ⟨w.heap.size, 0, none⟩), undef, .slice none 0 0, .int .i64 x, .func (.func 42) #[] #[.pointer (some ⟨Bl, 0, none⟩)], .int .i64 x, undef, undef, undef, undef, undef], defers := [] }) ?assign ?body ?done ?stop
  case assign =>
    intro l x W K hK
    gi_wp2
    exact hK
  case body =>
    rintro l pre x W ⟨⟨v, hv, hrow, _⟩, hb⟩ hlen
    have c1 := hv.cell
    have HB := Lib.hid hb
    gi_wp2_with (gi_at_builtin; refine wpListIn_append_own _ rfl _ _ 22 rfl w.heap.size 2 i0 (.int .i64 0) 1 8 Tryd.underlying22 hi hz0 hz1 hz2 rfl (by decide) _ _ _ rfl (hrow.alloc _) ⟨W.heap.size, 0, none⟩ 1 1 [.int .i64 x] rfl rfl (cell_one_new _ _ _) (by simp [Value.oneCell']) (by unfold maxLen; omega) (by omega) (by have := HB.out.size; simp; omega) ?_; intro v' w1 hown' hgrow _; obtain ⟨g', cap', rfl⟩ := ownsRow_succ hown'; obtain ⟨hv1, hv2, hr2, hk2, hb2⟩ := hv.appended (by decide) hrow HB.out.size (Nat.le_refl _) hown' hgrow; have hc1 := hv1.cell; have hf1 := hv1.frozen)
    exact ⟨hk2.from _, hb2, ⟨⟨_, hv2, by rw [List.length_append, show ints (pre ++ [x]) = ints pre ++ [.int .i64 x] by unfold ints; rw [List.map_append]; rfl]; exact hr2, trivial⟩, HB.out.trans hb2⟩⟩
  case done =>
    rintro D ys W hD rfl ⟨⟨v, hv, hrow, _⟩, hb⟩ hK
    have c1 := hv.cell
    gi_wp2
    refine ⟨by simp, .inl ⟨_, _, rfl, run_takeDeferred hK, ?_⟩⟩
    rw [hzl] at hrow
    exact ⟨_, results_tmp rfl _ _ _, ⟨_, rfl, ownsRow_putObj hrow _ hK rfl⟩, hb.grown (grownBy_putObj' W D _) (Below.size hb) (fun k e => by cases e; omega)⟩
  case stop =>
    rintro D c pre W _ _ h _
    exact h.elim
theorem c_SortedValues (Bl : Nat) (a : Option Addr) (n cap : Nat) (zs : List Int) (w : World) (hn : n ≤ 1048576) (h : Reads w a n (ints zs)) (hB : w.cell? ⟨Bl, 0, none⟩ = some (.slice a n cap)) :
    Calls Tryd.prog 28 #[.func (.func 42) #[] #[.pointer (some ⟨Bl, 0, none⟩)]] w (RetS 2 n (ints (sortZ zs)) w) := by
  have H := Lib.hid h
  have HB := Lib.hid hB
  clear h hB
  have CC : Calls Tryd.prog 40 #[.func (.func 42) #[] #[.pointer (some ⟨Bl, 0, none⟩)]] w fun e w' => (∃ v, e = .returned v ∧ w'.ownsRow w.heap.size 2 1 v n (ints zs)) ∧ Ext w w' := by
    go_enter Tryd.func40, Tryd.ntmps40
    go_wp2_with (go_at_call 47; refine (c_AppendSeq Bl a n cap zs _ hn H.out HB.out).mono ?_; rintro e w1 ⟨⟨v, rfl, o1⟩, x1⟩)
    go_ret
    exact ⟨⟨_, rfl, o1⟩, x1⟩
  have HCC := Lib.hid CC
  clear CC
  go_enter Tryd.func28, Tryd.ntmps28
  go_wp2_with fail
  refine HCC.out.mono ?_; rintro e w1 ⟨⟨v, rfl, o1⟩, x1⟩
  obtain ⟨a1, c1, rfl, ho⟩ := Own.of_row (e := 0) o1
  have HO := Lib.hid ho
  have HX := Lib.hid x1
  clear o1 ho x1
  go_wp2_with fail
  refine (c_Sort _ _ a1 n c1 zs _ hn HO.out).mono ?_; rintro e w2 ⟨rfl, o2, t2⟩
  have O2 := Lib.hid o2
  have T2 := Lib.hid t2
  clear o2 t2
  go_wp2
  go_ret
  exact ⟨_, _, rfl, O2.out.wide (Nat.le_refl _) T2.out.size, T2.out.ext HX.out (Nat.le_refl _)⟩
end Go.Proofs.YtplngjbllllanaaDoor
