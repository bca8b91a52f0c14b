/- slices.Sort and slices.Compact over a row of the call's own. -/
import Derived.Test.YtfbapbgiegploaaLsd
import Derived.Test.YtfbapbgiegploaaLcl
import Derived.Test.YtfbapbgiegploaaSrt
import Derived.RangeFuncNested
import Derived.RangeFuncBound
import Derived.RangeFuncCalls
import Derived.RangeFuncLeaves
import Derived.RangeFuncBox
import Derived.Maps.AppendAt
import Derived.Shelf.Abstract
import Derived.Shelf.RegionOpen
import Derived.WalkKit
import Derived.OwnWalkIn
import Derived.TacticsInMore
import Derived.LoopNIn
import Derived.LoopIn
import Derived.Test.YtfbapbgiegploaaRow
import Derived.Test.YtfbapbgiegploaaKin
import Derived.Test.YtfbapbgiegploaaYmd
import Derived.Test.YtfbapbgiegploaaYma
import Derived.Test.YtfbapbgiegploaaYme
namespace Go.Proofs.Ytfbapbgiegploaa
open Go.ChangeShapes Go.WideShapes Go.ChangeAt Go.RowKit Go.Sort Go.Shelf
set_option linter.unusedVariables false
theorem putRow_heap {α : Type} [Inhabited α] (enc : α → Value) (w : World) (g off : Nat) (d : Array α) (k : Nat) (h : k ≠ g) : (putRow enc w g off d).heap[k]? = w.heap[k]? := by
  unfold putRow mapBlock
  simp only [Array.getElem?_modify]
  rw [if_neg (Ne.symm h)]
theorem putRow_rowIs {w : World} {g c : Nat} {t : TypeId} {f : Nat → Value} (h : w.rowIs g t c f) (d : List Int) : (putRow (Value.int .i64) w g 0 d.toArray).rowIs g t c (rowT d f) := by
  obtain ⟨cs, hb, hn, hc⟩ := h
  refine ⟨putCells (Value.int .i64) 0 d.toArray cs, ?_, by unfold putCells; simpa using hn, fun i hi => ?_⟩
  · unfold putRow mapBlock
    simp only [Array.getElem?_modify, if_true, hb]; rfl
  · unfold putCells rowT
    rw [Array.getElem?_mapIdx, hc i hi]
    by_cases h1 : i < d.length
    · simp [h1]
    · simp [h1]
theorem touch_sort {w : World} {g n : Nat} {d : Array Int} {os : Array Obj} : Touch g (g + 1) w (grow (putRow (Value.int .i64) (Sort.ahead w n) g 0 d) os) :=
  ⟨rfl, rfl, rfl, by simp [Sort.ahead], fun k hk hr => by
    rw [heap_grow_old _ _ (by simpa [Sort.ahead] using hk), putRow_heap _ _ _ _ _ _ (by omega)]; rfl⟩
theorem rowIs_grow {w : World} {g c : Nat} {t : TypeId} {f : Nat → Value} (h : w.rowIs g t c f) (os : Array Obj) : (grow w os).rowIs g t c f := h.of_block (heap_grow_old w os h.lt)
theorem rowIs_ahead {w : World} {g c : Nat} {t : TypeId} {f : Nat → Value} (h : w.rowIs g t c f) (n : Nat) : (Sort.ahead w n).rowIs g t c f := h.of_block rfl
theorem holds_own {w : World} {g c : Nat} {t : TypeId} {f : Nat → Value} {zs : List Int} (h : w.rowIs g t c f) (hc : zs.length ≤ c) (hf : ∀ i, i < zs.length → (ints zs)[i]? = some (f i)) : Holds (Value.int .i64) w g 0 zs.toArray := by
  intro j hj
  have hj' : j < zs.length := by simpa using hj
  refine ⟨?_, h.frozen _⟩
  rw [Nat.zero_add, h.cell (by omega), ← hf j hj', ints_get zs j hj']
  simp [hj']
theorem rowT_ints (zs : List Int) (f : Nat → Value) (i : Nat) (h : i < zs.length) : (ints zs)[i]? = some (rowT zs f i) := by
  rw [ints_get zs i h]; unfold rowT; rw [if_pos h]
theorem Own.cut {t : TypeId} {w : World} {lo hi n c m : Nat} {a : Option Addr} {zs : List Int} (h : Own t w lo hi a n c (ints zs)) (hm : m ≤ n) : Own t w lo hi a m c (ints (zs.take m)) := by
  have hl := h.1
  rw [ints_length] at hl
  refine ⟨by rw [ints_length, List.length_take]; omega, by have := h.2.1; omega, ?_⟩
  rcases h.2.2 with h0 | ⟨g, f, h1, h2, h3, h4, h5⟩
  · exact .inl h0
  · refine .inr ⟨g, f, h1, h2, h3, h4, fun i hi => ?_⟩
    rw [← h5 i (by omega)]
    unfold ints; rw [List.getElem?_map, List.getElem?_map, List.getElem?_take_of_lt hi]
theorem sortZ_nil : sortZ [] = [] := List.eq_nil_of_length_eq_zero (sortZ_length [])
theorem compact_nil : Lib.compact ([] : List Int) = [] := rfl
theorem c_Sort (lo hi : Nat) (a : Option Addr) (n cap : Nat) (zs : List Int) (w : World) (hn : n ≤ 1048576) (h : Own 2 w lo hi a n cap (ints zs)) :
    Calls Try.prog 231 #[.slice a n cap] w fun e w' => e = .returned (.tuple #[]) ∧ Own 2 w' lo hi a n cap (ints (sortZ zs)) ∧ Touch lo hi w w' := by
  have hl := h.1
  rw [ints_length] at hl
  subst hl
  rcases h.2.2 with ⟨rfl, h1⟩ | ⟨g, f, rfl, h1, h2, h3, h4⟩
  · have h0 : zs = [] := List.eq_nil_of_length_eq_zero (by have := h.2.1; omega)
    subst h0
    have hc := AnyG.slices_Sort_int_none Sh.laysSort none cap w
    change Calls Try.prog 231 _ _ _ at hc
    refine hc.mono ?_
    rintro e w' ⟨rfl, rfl⟩
    exact ⟨rfl, by rw [sortZ_nil]; exact h, Touch.refl _ _ _⟩
  · have hc := AnyG.slices_Sort_int Sh.laysSort g 0 cap zs w (holds_own h3 h.2.1 h4) h3.lt (by omega)
    change Calls Try.prog 231 _ _ _ at hc
    refine hc.mono ?_
    rintro e w' ⟨rfl, m, os, rfl⟩
    refine ⟨rfl, ⟨by rw [ints_length, sortZ_length], h.2.1, .inr ⟨g, _, rfl, h1, h2, rowIs_grow (putRow_rowIs (rowIs_ahead h3 m) (sortZ zs)) os, fun i hi => rowT_ints _ _ _ (by rw [sortZ_length]; exact hi)⟩⟩, touch_sort.wide h1 (by omega)⟩
theorem c_Compact (lo hi : Nat) (a : Option Addr) (n cap : Nat) (zs : List Int) (w : World) (hn : n ≤ 1048576) (h : Own 2 w lo hi a n cap (ints zs)) :
    Calls Try.prog 232 #[.slice a n cap] w fun e w' => e = .returned (.slice a (Lib.compact zs).length cap) ∧ Own 2 w' lo hi a (Lib.compact zs).length cap (ints (Lib.compact zs)) ∧ Touch lo hi w w' := by
  have hl := h.1
  rw [ints_length] at hl
  subst hl
  have hle := Lib.compact_length_le zs
  by_cases h0 : zs = []
  · subst h0
    have hc := AnyG.slices_Compact_int_empty Sh.laysCompact a cap w
    change Calls Try.prog 232 _ _ _ at hc
    refine hc.mono ?_
    rintro e w' ⟨rfl, rfl⟩
    exact ⟨rfl, h, Touch.refl _ _ _⟩
  · have hpos : 0 < zs.length := Nat.pos_of_ne_zero (fun e => h0 (List.eq_nil_of_length_eq_zero e))
    rcases h.2.2 with ⟨rfl, h1⟩ | ⟨g, f, rfl, h1, h2, h3, h4⟩
    · have := h.2.1; omega
    · have hc := AnyG.slices_Compact_int Sh.laysCompact g 0 cap zs w (holds_own h3 h.2.1 h4) (by omega) h.2.1
      change Calls Try.prog 232 _ _ _ at hc
      refine hc.mono ?_
      rintro e w' ⟨rfl, m, rfl⟩
      have hr := putRow_rowIs (rowIs_ahead h3 m) (Lib.compact zs ++ List.replicate (zs.length - (Lib.compact zs).length) 0)
      have ht : Touch g (g + 1) w (putRow (Value.int .i64) (Sort.ahead w m) g 0 (Lib.compact zs ++ List.replicate (zs.length - (Lib.compact zs).length) 0).toArray) := by
        have := touch_sort (w := w) (g := g) (n := m) (d := (Lib.compact zs ++ List.replicate (zs.length - (Lib.compact zs).length) 0).toArray) (os := #[])
        rwa [grow_empty] at this
      refine ⟨rfl, ⟨ints_length _, by have := h.2.1; omega, .inr ⟨g, _, rfl, h1, h2, hr, fun i hi => ?_⟩⟩, ht.wide h1 (by omega)⟩
      rw [ints_get _ _ hi]; unfold rowT; rw [if_pos (by rw [List.length_append]; omega), List.getElem?_append_left hi]
end Go.Proofs.Ytfbapbgiegploaa
/- slices.Values, slices.Collect, slices.Sorted at []int64. -/
namespace Go.Proofs.Ytfbapbgiegploaa
open Go.ChangeShapes Go.WideShapes Go.ChangeAt Go.RowKit Go.Shelf
set_option linter.unusedVariables false
attribute [local go_sem] Oper.semAt_some
theorem take_snocV (zs : List Int) (k : Nat) (h : k < zs.length) : zs.take (k + 1) = zs.take k ++ [zs[k]?.getD 0] := by
  rw [List.take_succ_eq_append_getElem h, List.getElem?_eq_getElem h]; rfl
theorem reads_below {n₀ : Nat} {w0 W W' : World} {n : Nat} {a : Option Addr} {vs : List Value} (h : Reads w0 a n vs) (x : Ext w0 W) (h0 : w0.heap.size ≤ n₀) (hk : Below n₀ W W') : Reads W' a n vs := by
  refine ⟨h.1, ?_⟩
  rcases h.2 with h1 | ⟨b, off, rfl, hc⟩
  · exact .inl h1
  · exact .inr ⟨b, off, rfl, fun i hi => by
      have e : vs[i]? = some (vs[i]'(by rw [h.1]; exact hi)) := List.getElem?_eq_getElem _
      have h1 := hc i hi
      rw [e] at h1 ⊢
      have hb : b < w0.heap.size := World.block_lt_of_cell? w0 ⟨b, off + i, none⟩ h1
      exact (Below.cell (p := ⟨b, off + i, none⟩) hk (Nat.lt_of_lt_of_le hb h0)).trans ((x.cell b _ hb).trans h1)⟩
theorem c_Values (a : Option Addr) (n cap : Nat) (w : World) :
    Calls Try.prog 214 #[.slice a n cap] w fun e w' => e = .returned (.func (.func 274) #[] #[.pointer (some ⟨w.heap.size, 0, none⟩)]) ∧ w' = w.alloc (.cells #[.slice a n cap] 25) := by
  go_enter Try.func214, Try.ntmps214
  go_wp2
  go_ret
  exact ⟨rfl, rfl⟩
set_option maxRecDepth 100000 in
set_option maxHeartbeats 2000000 in
theorem values1_in (F : Fence) (N : Nat) (hF : F.fn 274) (hro : F.round = none) (hN : 1 ≤ N) (l Bl n₀ : Nat) (a : Option Addr) (n cap : Nat) (zs : List Int) (hz : zs.length = n) (hn : n ≤ 1048576) (J Jx : List Int → World → Prop)
    (hY : ∀ pre x W, J pre W → pre.length < n → YieldAt F (N - 1) Try.prog l #[.int .i64 x] W fun e W' =>
      (e = .returned (.bool true) ∧ J (pre ++ [x]) W' ∧ Below n₀ W W') ∨ (e = .returned (.bool false) ∧ Jx (pre ++ [x]) W'))
    (W : World) (hRd : ∀ W', Below n₀ W W' → Reads W' a n (ints zs)) (hBl : W.cell? ⟨Bl, 0, none⟩ = some (.slice a n cap)) (h0 : J [] W) :
    CallsIn F N Try.prog 274 #[.func (.yield l) #[] #[], .pointer (some ⟨Bl, 0, none⟩)] W fun e W' => (∃ v, e = .returned v) ∧
      ((∃ ys, ys = zs ∧ J ys W') ∨ (∃ pre, True ∧ Jx pre W')) := by
  have HRd := Lib.hid hRd
  have HY := Lib.hid hY
  have HZ := Lib.hid hz
  have hnI : (n : Int) ≤ 1048576 := by omega
  clear hRd hY hz
  refine callsIn_of_wp Try.func274 rfl hF ?_ hro
  simp only [Try.ntmps274, List.size_toArray, List.length_cons, List.length_nil, Nat.reduceAdd, Nat.reduceSub, Array.replicate_succ, Array.replicate_zero, List.push_toArray, List.append_toArray, List.nil_append, List.cons_append]
  gi_wp2
  gi_loopw [7] (fun i wr => ∃ k : Nat, k ≤ n ∧ i = .int .i64 k ∧ J (zs.take k) wr ∧ Below n₀ W wr)
    (fun i _ => n - (intOf i).toNat)
  case atStart => exact ⟨0, Nat.zero_le _, rfl, h0, Below.refl _ _⟩
  case round =>
    obtain ⟨k, hk, rfl, hJs, hnx⟩ := hrel
    have HK := Lib.hid hnx
    have HJ := Lib.hid hJs
    clear hnx hJs
    by_cases hlt : k < n
    · have hltI : (k : Int) < (n : Int) := by omega
      rcases (HRd.out wr HK.out).int.2 with h1 | ⟨b, off, rfl, hc⟩
      · omega
      have cz := hc k hlt
      obtain ⟨x, hx⟩ : ∃ x, zs[k]?.getD 0 = x := ⟨_, rfl⟩
      have HS := Lib.hid (show zs.take (k + 1) = zs.take k ++ [x] by rw [take_snocV zs k (by have := HZ.out; omega), hx])
      rw [hx] at cz
      obtain ⟨fn, tmps, assign, body, hy, hR⟩ := HY.out _ x wr HJ.out (by rw [List.length_take]; omega)
      clear hc hx
      gi_wp2
      refine hR.mono ?_
      rintro e W3 (⟨rfl, hJ3, hk3⟩ | ⟨rfl, hJx3⟩)
      · gi_wp2
        go_roundw
        case rel => exact ⟨k + 1, by omega, by first | rfl | simp | go_num, by rw [HS.out]; exact hJ3, HK.out.trans hk3⟩
        case measure => simp [intOf]; omega
      · gi_wp2
        refine bodyPost_ret (results_none rfl _ _ _) rfl ?_
        exact ⟨⟨_, rfl⟩, .inr ⟨_, trivial, hJx3⟩⟩
    · have hkn : k = n := by omega
      subst hkn
      have hlt' : ¬ (k : Int) < (k : Int) := by omega
      have HS := Lib.hid (show zs.take k = zs by rw [List.take_of_length_le (by have := HZ.out; omega)])
      rw [HS.out] at HJ
      gi_wp2
      go_end0
      first | exact ⟨⟨_, rfl⟩, .inl ⟨_, rfl, HJ.out⟩⟩ | exact ⟨⟨_, rfl⟩, .inl HJ.out⟩ | exact .inl HJ.out | exact .inl ⟨_, rfl, HJ.out⟩
theorem values_stops (F : Fence) (N : Nat) (hF : F.fn 274) (hro : F.round = none) (hN : 1 ≤ N) (Bl n₀ : Nat) (a : Option Addr) (n cap : Nat) (zs : List Int) (hn : n ≤ 1048576)
    (w0 w : World) (x0 : Ext w0 w) (h0 : w0.heap.size ≤ n₀) (h : Reads w0 a n (ints zs)) (hB : w.cell? ⟨Bl, 0, none⟩ = some (.slice a n cap)) :
    SeqStopsK F N Try.prog 274 #[.pointer (some ⟨Bl, 0, none⟩)] (fun x : Int => #[.int .i64 x]) (Below n₀) (fun ys => ys = zs) (fun _ => True) n w := fun l J Jx W hW _ _ hY hJ =>
  values1_in F N hF hro hN l Bl n₀ a n cap zs h.int.1 hn J Jx hY W (fun W' hk => reads_below h (x0.trans hW) h0 hk) (Ext.some hW hB) hJ
set_option maxRecDepth 100000 in
set_option maxHeartbeats 4000000 in
theorem c_AppendSeq (Bl : Nat) (a : Option Addr) (n cap : Nat) (zs : List Int) (w : World) (hn : n ≤ 1048576) (h : Reads w a n (ints zs)) (hB : w.cell? ⟨Bl, 0, none⟩ = some (.slice a n cap)) :
    Calls Try.prog 298 #[.slice none 0 0, .func (.func 274) #[] #[.pointer (some ⟨Bl, 0, none⟩)]] w fun e w' => (∃ v, e = .returned v ∧ w'.ownsRow w.heap.size 2 1 v n (ints zs)) ∧ Ext w w' := by
  obtain ⟨i0, hi, hz0, hz1, hz2⟩ := info_parts info_i64
  have hzl := h.int.1
  refine (callsIn_wide (n := 6)).1 ?_
  refine callsIn_of_wp_marks Try.func298 rfl trivial ?_ rfl
  simp only [Try.ntmps298, List.size_toArray, List.length_cons, List.length_nil, Nat.reduceAdd, Nat.reduceSub, Array.replicate_succ, Array.replicate_zero, List.push_toArray, List.append_toArray, List.nil_append, List.cons_append]
  gi_wp2
  obtain ⟨W0, hW0⟩ : ∃ W0, w.alloc (.cells #[.slice none 0 0] 25) = W0 := ⟨_, rfl⟩
  have hs0 : W0.heap.size = w.heap.size + 1 := by rw [← hW0]; simp
  have X0 : Ext w W0 := by rw [← hW0]; exact Ext.alloc _ _
  have hbx : Boxed W0 w.heap.size 25 (.slice none 0 0) := by rw [← hW0]; exact Boxed.new _ _ _
  rw [hW0]
  refine wpIn_rangeFunc_ownG rfl (by omega) (gf := 274) (lb := #[.pointer (some ⟨Bl, 0, none⟩)]) rfl trivial (enters_of Try.func274 (by kernel_rfl) rfl)
    (values_stops Fence.wide 5 trivial rfl (by omega) Bl w.heap.size a n cap zs hn w W0 X0 (Nat.le_refl _) h (Ext.some X0 hB))
    belowK_t (belowK_b (by omega)) (Below.refl _ _) (fun _ => rfl)
    (fun pre W => (∃ v, Boxed W w.heap.size 25 v ∧ W.ownsRow w.heap.size 2 1 v pre.length (ints pre) ∧ True) ∧ Below w.heap.size w W) (fun _ _ _ => False)
    (OwnFrom.and (Own.from (holdsRow_own w.heap.size w.heap.size 25 2 1 (fun pre => pre.length) (fun pre => ints pre) (fun _ _ => True)) _) (ownFrom_below (Nat.le_refl _) (by omega))) (fun _ _ _ _ _ hs _ _ => hs)
    ⟨⟨_, hbx, World.ownsRow_nil _ _ _ _, trivial⟩, X0⟩
    (fun x => { tmps := #[.slice none 0 0, .func (.func 274) #[] #[.pointer (some ⟨Bl, 0, none⟩)], .pointer (some ⟨w.heap.size, 0, none⟩), undef, .slice none 0 0, .int .i64 x, .func (.func 274) #[] #[.pointer (some ⟨Bl, 0, none⟩)], .int .i64 x, undef, undef, undef, undef, undef], defers := [] }) ?assign ?body ?done ?stop
  case assign =>
    intro l x W K hK
    gi_wp2
    exact hK
  case body =>
    rintro l pre x W ⟨⟨v, hv, hrow, _⟩, hb⟩ hlen
    have c1 := hv.cell
    have HB := Lib.hid hb
    gi_wp2_with (gi_at_builtin; refine wpListIn_append_own _ rfl _ _ 25 rfl w.heap.size 2 i0 (.int .i64 0) 1 8 Try.underlying25 hi hz0 hz1 hz2 rfl (by decide) _ _ _ rfl (hrow.alloc _) ⟨W.heap.size, 0, none⟩ 1 1 [.int .i64 x] rfl rfl (cell_one_new _ _ _) (by simp [Value.oneCell']) (by unfold maxLen; omega) (by omega) (by have := HB.out.size; simp; omega) ?_; intro v' w1 hown' hgrow _; obtain ⟨g', cap', rfl⟩ := ownsRow_succ hown'; obtain ⟨hv1, hv2, hr2, hk2, hb2⟩ := hv.appended (by decide) hrow HB.out.size (Nat.le_refl _) hown' hgrow; have hc1 := hv1.cell; have hf1 := hv1.frozen)
    exact ⟨hk2.from _, hb2, ⟨⟨_, hv2, by rw [List.length_append, show ints (pre ++ [x]) = ints pre ++ [.int .i64 x] by unfold ints; rw [List.map_append]; rfl]; exact hr2, trivial⟩, HB.out.trans hb2⟩⟩
  case done =>
    rintro D ys W hD rfl ⟨⟨v, hv, hrow, _⟩, hb⟩ hK
    have c1 := hv.cell
    gi_wp2
    refine ⟨by simp, .inl ⟨_, _, rfl, run_takeDeferred hK, ?_⟩⟩
    rw [hzl] at hrow
    exact ⟨_, results_tmp rfl _ _ _, ⟨_, rfl, ownsRow_putObj hrow _ hK rfl⟩, hb.grown (grownBy_putObj' W D _) (Below.size hb) (fun k e => by cases e; omega)⟩
  case stop =>
    rintro D c pre W _ _ h _
    exact h.elim
theorem c_SortedValues (Bl : Nat) (a : Option Addr) (n cap : Nat) (zs : List Int) (w : World) (hn : n ≤ 1048576) (h : Reads w a n (ints zs)) (hB : w.cell? ⟨Bl, 0, none⟩ = some (.slice a n cap)) :
    Calls Try.prog 213 #[.func (.func 274) #[] #[.pointer (some ⟨Bl, 0, none⟩)]] w (RetS 2 n (ints (sortZ zs)) w) := by
  have H := Lib.hid h
  have HB := Lib.hid hB
  clear h hB
  have CC : Calls Try.prog 273 #[.func (.func 274) #[] #[.pointer (some ⟨Bl, 0, none⟩)]] w fun e w' => (∃ v, e = .returned v ∧ w'.ownsRow w.heap.size 2 1 v n (ints zs)) ∧ Ext w w' := by
    go_enter Try.func273, Try.ntmps273
    go_wp2_with (go_at_call 298; refine (c_AppendSeq Bl a n cap zs _ hn H.out HB.out).mono ?_; rintro e w1 ⟨⟨v, rfl, o1⟩, x1⟩)
    go_ret
    exact ⟨⟨_, rfl, o1⟩, x1⟩
  have HCC := Lib.hid CC
  clear CC
  go_enter Try.func213, Try.ntmps213
  go_wp2_with fail
  refine HCC.out.mono ?_; rintro e w1 ⟨⟨v, rfl, o1⟩, x1⟩
  obtain ⟨a1, c1, rfl, ho⟩ := Own.of_row (e := 0) o1
  have HO := Lib.hid ho
  have HX := Lib.hid x1
  clear o1 ho x1
  go_wp2_with fail
  refine (c_Sort _ _ a1 n c1 zs _ hn HO.out).mono ?_; rintro e w2 ⟨rfl, o2, t2⟩
  have O2 := Lib.hid o2
  have T2 := Lib.hid t2
  clear o2 t2
  go_wp2
  go_ret
  exact ⟨_, _, rfl, O2.out.wide (Nat.le_refl _) T2.out.size, T2.out.ext HX.out (Nat.le_refl _)⟩
end Go.Proofs.Ytfbapbgiegploaa
/- What is most often in a list, by the program: a map that counts, the list in order, the first that is most often. -/
namespace Go.Proofs.Ytfbapbgiegploaa
open Go.ChangeShapes Go.WideShapes Go.ChangeAt Go.RowKit Go.Maps Go.WideMaps
set_option linter.unusedVariables false
theorem oftKeyed : Keyed Try.prog 2 := int_keyed Try.underlying2
theorem oftKey {x : Int} (h : (Lit.int .i64 x).wf = true) : keyOf Try.prog 2 (.int .i64 x) = some (.int .i64 x) := keyOf_int_mk Try.underlying2 h
theorem oftZero (w : World) : (zeroValue 3).run Try.prog w = .ok (.int .i64 0) w := by kernel_rfl
set_option maxRecDepth 100000 in
theorem c_oftLess (pb bm q : Nat) (zs : List Int) (x y : Int) (w : World) {D : DataW Unit} {b : Bool} (hb : decide (cntI zs y < cntI zs x) = b) (hx : (Lit.int .i64 x).wf = true) (hy : (Lit.int .i64 y).wf = true) (hD : CntD D zs)
    (hp : w.cell? ⟨pb, 0, none⟩ = some (.map (some bm))) (hown : w.ownsMap Try.prog 2 (plainElem Try.prog 3) bm q D) :
    Calls Try.prog 216 #[.int .i64 x, .int .i64 y, .pointer (some ⟨pb, 0, none⟩)] w fun e w' => e = .returned (.bool b) ∧ w = w' := by
  have HB := Lib.hid hb
  have HD := Lib.hid hD
  have HX := Lib.hid (oftKey hx)
  have HY := Lib.hid (oftKey hy)
  have HO := Lib.hid hown
  clear hb hD hx hy hown
  go_enter Try.func216, Try.ntmps216
  go_wp2_with (first
    | (at_lookup; refine wpList_lookup_own_int _ rfl _ _ 225 rfl 2 3 .i64 oftKeyed Try.underlying225 Try.underlying3 (oftZero _) bm q _ rfl HO.out _ _ rfl HX.out ?_; intro c hat hwc; rw [HD.out.a] at hat; injection hat with hat; injection hat with _ hat; subst hat; clear hwc)
    | (at_lookup; refine wpList_lookup_own_int _ rfl _ _ 225 rfl 2 3 .i64 oftKeyed Try.underlying225 Try.underlying3 (oftZero _) bm q _ rfl HO.out _ _ rfl HY.out ?_; intro c hat hwc; rw [HD.out.a] at hat; injection hat with hat; injection hat with _ hat; subst hat; clear hwc))
  go_ret
  exact ⟨retB_o (by first | (rw [← HB.out]; done) | (rw [← HB.out]; simp)), rfl⟩
theorem c_firstMost (pb bm q : Nat) (b off n cap : Nat) (zs ys : List Int) (w : World) {D : DataW Unit} {m : Nat} (hm : leastAt (fun i => -((cntI zs (getI ys i) : Nat) : Int)) n = m) (hn : n ≤ 1048576) (h1 : 1 ≤ n) (hy : ys.length = n) (hD : CntD D zs) (hmany : ManyOk ys) (h : Reads w (some ⟨b, off, none⟩) n (ints ys))
    (hp : w.cell? ⟨pb, 0, none⟩ = some (.map (some bm))) (hown : w.ownsMap Try.prog 2 (plainElem Try.prog 3) bm q D) :
    Calls Try.prog 215 #[.slice (some ⟨b, off, none⟩) n cap, .func (.func 216) #[] #[.pointer (some ⟨pb, 0, none⟩)]] w fun e w' => e = .returned (.int .i64 (m : Nat)) ∧ w = w' := by
  obtain ⟨f, hf⟩ : ∃ f : Nat → Int, (fun i => -((cntI zs (getI ys i) : Nat) : Int)) = f := ⟨_, rfl⟩
  have HF := Lib.hid (show ∀ i, -((cntI zs (getI ys i) : Nat) : Int) = f i from fun i => congrFun hf i)
  rw [hf] at hm
  have HM := Lib.hid hm
  have HC := Lib.hid (show ∀ i, i < n → w.cell? ⟨b, off + i, none⟩ = some (.int .i64 (getI ys i)) by
    rcases h.int.2 with h0 | ⟨b', off', he, hc⟩
    · omega
    · cases he; exact hc)
  have HL := Lib.hid (show ∀ x y v, decide (cntI zs y < cntI zs x) = v → (Lit.int .i64 x).wf = true → (Lit.int .i64 y).wf = true → Calls Try.prog 216 #[.int .i64 x, .int .i64 y, .pointer (some ⟨pb, 0, none⟩)] w fun e w' => e = .returned (.bool v) ∧ w = w' from fun x y v hv hx hy => c_oftLess pb bm q zs x y w hv hx hy hD hp hown)
  have HW := Lib.hid (show ∀ i, i < n → (Lit.int .i64 (getI ys i)).wf = true from fun i hi => by
    have := hmany.at (i := i) (by omega); exact wf_many this.1 this.2)
  have hnI : (n : Int) ≤ 1048576 := by omega
  clear hf hm h hp hown hmany hD hy
  go_enter Try.func215, Try.ntmps215
  go_wp2
  go_loopw [5, 10] (fun m i wr => ∃ k : Nat, k ≤ n ∧ i = .int .i64 k ∧ m = .int .i64 (leastAt f k : Nat) ∧ w = wr) (fun _ i _ => n - (intOf i).toNat)
  case atStart => exact ⟨0, by omega, rfl, rfl, rfl⟩
  case round =>
    obtain ⟨k, hk, rfl, rfl, rfl⟩ := hrel
    by_cases hlt : k < n
    · have hltI : (k : Int) < (n : Int) := by omega
      obtain ⟨m0, hm0⟩ : ∃ m, leastAt f k = m := ⟨_, rfl⟩
      have hml : m0 < n := by
        rw [← hm0]
        by_cases h0 : k = 0
        · subst h0; exact hlt
        · have := leastAt_le f k (by omega); omega
      have hmlI : (m0 : Int) < (n : Int) := by omega
      have hcx := HC.out k hlt
      have hcy := HC.out m0 hml
      have HWX := Lib.hid (HW.out k hlt)
      have HWY := Lib.hid (HW.out m0 hml)
      have HFX := Lib.hid (HF.out k)
      have HFY := Lib.hid (HF.out m0)
      obtain ⟨u, hu⟩ : ∃ u, getI ys k = u := ⟨_, rfl⟩
      obtain ⟨v, hv⟩ : ∃ v, getI ys m0 = v := ⟨_, rfl⟩
      rw [hu] at hcx HWX HFX
      rw [hv] at hcy HWY HFY
      rw [hm0]
      by_cases hlt2 : cntI zs v < cntI zs u
      · have HLS := Lib.hid (show leastAt f (k + 1) = k from leastAt_yes (by rw [hm0, ← HFX.out, ← HFY.out]; omega))
        have HD := Lib.hid (show decide (cntI zs v < cntI zs u) = true from decide_eq_true hlt2)
        clear hu hv hm0 hlt2
        go_wp2_with (go_at_call 216; refine (HL.out u v _ HD.out HWX.out HWY.out).mono ?_; rintro e w' ⟨rfl, rfl⟩)
        go_roundw
        case rel => exact ⟨k + 1, by omega, by go_num, by rw [HLS.out], by first | rfl | trivial⟩
        case measure => simp [intOf]; omega
      · have HLS := Lib.hid (show leastAt f (k + 1) = m0 from by rw [leastAt_no (by rw [hm0, ← HFX.out, ← HFY.out]; omega), hm0])
        have HD := Lib.hid (show decide (cntI zs v < cntI zs u) = false from decide_eq_false hlt2)
        clear hu hv hm0 hlt2
        go_wp2_with (go_at_call 216; refine (HL.out u v _ HD.out HWX.out HWY.out).mono ?_; rintro e w' ⟨rfl, rfl⟩)
        go_roundw
        case rel => exact ⟨k + 1, by omega, by go_num, by rw [HLS.out], by first | rfl | trivial⟩
        case measure => simp [intOf]; omega
    · obtain rfl : k = n := by omega
      go_wp2
      go_ret
      exact ⟨by rw [HM.out]; rfl, rfl⟩
set_option maxRecDepth 100000 in
set_option maxHeartbeats 1000000 in
theorem c_mostOften (b off n cap : Nat) (zs : List Int) (w : World) (h1 : 1 ≤ n) (hn : n ≤ 1000) (hmany : ManyOk zs) (h : Reads w (some ⟨b, off, none⟩) n (ints zs)) :
    Calls Try.prog 109 #[.slice (some ⟨b, off, none⟩) n cap] w fun e w' => e = .returned (.int .i64 (oftI zs)) ∧ Ext w w' := by
  have hz := h.int.1
  have HZ := Lib.hid hz
  have H := Lib.hid h
  have hcs : ∀ i, i < n → w.cell? ⟨b, off + i, none⟩ = some (.int .i64 (getI zs i)) := by
    rcases h.int.2 with h0 | ⟨b', off', he, hc⟩
    · omega
    · cases he; exact hc
  have HC := Lib.hid hcs
  have HMA := Lib.hid hmany
  have hnI : (n : Int) ≤ 1000 := by omega
  have hmm := @run_makeMap Try.prog
  have HN := Lib.hid (show n ≤ 1048576 by omega)
  clear h hz hcs hmany
  go_enter Try.func109, Try.ntmps109
  go_wp2
  go_loopw [10] (fun i wr => ∃ k : Nat, k ≤ n ∧ i = .int .i64 k ∧ (∃ D, wr.ownsMap Try.prog 2 (plainElem Try.prog 3) w.heap.size k D ∧ CntD D (zs.take k)) ∧ Box wr (w.heap.size + 1) 225 #[.map (some w.heap.size)] ∧ Ext w wr) (fun i _ => n - (intOf i).toNat)
  case atStart => exact ⟨0, Nat.zero_le _, rfl, ⟨_, World.ownsMap.alloc (World.ownsMap_made _ _ _ _) _, by rw [List.take_zero]; exact CntD.nil⟩, Box.alloc_at _ _ _ (by simp), by (repeat (first | assumption | exact Ext.refl _ | (with_reducible refine Ext.stepS ?_ (by first | exact Nat.le_refl _ | (simp; done) | (simp; omega)) _) | (with_reducible refine Ext.stepN ?_ _) | (with_reducible refine Ext.stepD ?_) | (with_reducible refine Ext.stepA ?_ _)))⟩
  case round =>
    obtain ⟨k, hk, rfl, ⟨D, hown, hcd⟩, hbx, hext⟩ := hrel
    have HO := Lib.hid hown
    have HD := Lib.hid hcd
    have HBX := Lib.hid hbx
    have HE := Lib.hid hext
    clear hown hcd hbx hext hmm
    have bx := HBX.out.cell 0
    by_cases hlt : k < n
    · have hltI : (k : Int) < (n : Int) := by omega
      have c1 := HE.out.some (HC.out k hlt)
      have hbd := HMA.out.at (i := k) (by have := HZ.out; omega)
      have HT := Lib.hid (show zs.take (k + 1) = zs.take k ++ [getI zs k] by
        rw [List.take_succ_eq_append_getElem (by have := HZ.out; omega)]
        unfold getI; rw [List.getElem?_eq_getElem (by have := HZ.out; omega)]; rfl)
      obtain ⟨x, hx⟩ : ∃ x, getI zs k = x := ⟨_, rfl⟩
      rw [hx] at c1 hbd HT
      have HK := Lib.hid (oftKey (wf_many hbd.1 hbd.2))
      have hk30 : k < maxLen := by unfold maxLen; omega
      obtain ⟨c0, hc0⟩ : ∃ c0, cntI (zs.take k) x = c0 := ⟨_, rfl⟩
      have hcl : c0 ≤ k := by rw [← hc0]; have := cntI_le (zs.take k) x; rw [List.length_take] at this; omega
      have HA := Lib.hid (show D.atKey (.int .i64 x) (.lit (.int .i64 0)) = .lit (.int .i64 ((c0 : Nat) : Int)) by rw [HD.out.a, hc0])
      have HS := Lib.hid (show CntD (D.put (.int .i64 x) (.lit (.int .i64 (((c0 : Nat) : Int) + 1)))) (zs.take (k + 1)) by rw [HT.out, ← hc0]; exact HD.out.step x)
      have hwf : (Lit.int .i64 (((c0 : Nat) : Int) + 1)).wf = true := wf_many (by omega) (by omega)
      have HWF := Lib.hid hwf
      clear hx hbd hc0 hwf
      go_wp2_with (first
        | (at_lookup; refine wpList_lookup_own_int _ rfl _ _ 225 rfl 2 3 .i64 oftKeyed Try.underlying225 Try.underlying3 (oftZero _) w.heap.size k _ rfl HO.out _ _ rfl HK.out ?_; intro c hat hwc; rw [HA.out] at hat; injection hat with hat; injection hat with _ hat; subst hat; clear hwc)
        | (at_mapUpdate; refine wpList_mapUpdate_own _ rfl _ _ _ 225 rfl 2 3 oftKeyed Try.underlying225 (plainElem (H := Unit) Try.prog 3) w.heap.size k _ rfl HO.out hk30 _ _ _ rfl rfl HK.out _ [] (plainElem_int Try.underlying3 HWF.out) ?_; intro w1 hown1 hgrow1; have HO1 := Lib.hid hown1; have HG1 := Lib.hid hgrow1; clear hown1 hgrow1))
      go_roundw
      case rel => exact ⟨k + 1, by omega, by go_num, ⟨_, HO1.out, HS.out⟩, (show w1.heap[w.heap.size + 1]? = _ from (HG1.out.block _ HBX.out.lt (by simp)).trans HBX.out), Below.grown HE.out HG1.out HE.out.size (fun j hj => by cases hj; exact Nat.le_refl _)⟩
      case measure => simp [intOf]; omega
    · have hkn : k = n := by omega
      subst hkn
      have hlt' : ¬ (k : Int) < (k : Int) := by omega
      have HTK := Lib.hid (show zs.take k = zs from List.take_of_length_le (by have := HZ.out; omega))
      rw [HTK.out] at HD
      go_wp2_with (go_at_call 214; refine (c_Values _ _ _ _).mono ?_; rintro e w1 ⟨rfl, hw1⟩; have HW1 := Lib.hid hw1; clear hw1)
      have XE1 := Lib.hid (show Ext wr w1 by rw [HW1.out]; exact Ext.alloc _ _)
      have HBV := Lib.hid (show Box w1 wr.heap.size 25 #[.slice (some ⟨b, off, none⟩) k cap] by rw [HW1.out]; exact Box.alloc _ _ _)
      clear bx
      refine (c_SortedValues _ _ k cap zs _ HN.out ((H.out.on HE.out).on XE1.out) (HBV.out.cell 0)).mono ?_; rintro e w2 ⟨a2, c2, rfl, o2, x2⟩
      have HX2 := Lib.hid (XE1.out.trans x2)
      have hsl : (sortZ zs).length = k := by rw [sortZ_length]; exact HZ.out
      obtain ⟨g2, f2, rfl, q1, q2, q3, q4, q5⟩ := o2.rowT (by omega)
      have RD := Lib.hid o2.reads
      have bx := (HBX.out.on HX2.out).cell 0
      have hmlt : leastAt (oftF zs) k < k := leastAt_le _ _ h1
      have HOFT := Lib.hid (show oftI zs = getI (sortZ zs) (leastAt (oftF zs) k) by unfold oftI; rw [HZ.out])
      obtain ⟨m, hm⟩ : ∃ m, leastAt (oftF zs) k = m := ⟨_, rfl⟩
      have HM := Lib.hid (show leastAt (fun i => -((cntI zs (getI (sortZ zs) i) : Nat) : Int)) k = m from hm)
      rw [hm] at hmlt HOFT
      have hmI : (m : Int) < (k : Int) := by omega
      have cm : w2.cell? ⟨g2, m, none⟩ = some (.int .i64 (oftI zs)) := by
        rw [HOFT.out]
        have := q5.cell (i := m) (by omega)
        rw [rowT_at (by omega)] at this
        exact this
      have HSM := Lib.hid (show ManyOk (sortZ zs) from fun x hx => HMA.out x ((sortZ_mem zs x).1 hx))
      have HSL := Lib.hid hsl
      have HOM := Lib.hid (owns_map HO.out (Below.block HX2.out w.heap.size (by have := HBX.out.lt; omega)))
      clear o2 x2 q1 q2 q3 q4 q5 hsl hm
      go_wp2_with (go_at_call 215; refine (c_firstMost (w.heap.size + 1) w.heap.size k _ _ k _ zs (sortZ zs) _ HM.out HN.out h1 HSL.out HD.out HSM.out RD.out bx HOM.out).mono ?_; rintro e w3 ⟨rfl, rfl⟩)
      go_ret
      exact ⟨rfl, HE.out.trans HX2.out⟩
end Go.Proofs.Ytfbapbgiegploaa
/- The list of the most frequent last ones of each index, by the program. -/
namespace Go.Proofs.Ytfbapbgiegploaa
open Go.ChangeShapes Go.WideShapes Go.ChangeAt Go.RowKit Go.Shelf
set_option linter.unusedVariables false
attribute [local go_sem] Oper.semAt_some
set_option maxRecDepth 100000 in
set_option maxHeartbeats 4000000 in
theorem c_tellLast_Oft (b off n cap long : Nat) (zs : List Int) (w : World) (h1 : 1 ≤ n) (hn : n ≤ 128) (hnc : n ≤ cap) (hl1 : 1 ≤ long) (hl2 : long ≤ 128) (hmany : ManyOk zs) (h : Reads w (some ⟨b, off, none⟩) n (ints zs)) :
    Calls Try.prog 210 #[.slice (some ⟨b, off, none⟩) n cap, .int .i64 (long : Int), .func (.func 109) #[] #[]] w (RetS 2 n (ints (tellZ oftI zs long)) w) := by
  obtain ⟨hz, hr⟩ := h.int
  have hcs : ∀ i, i < n → w.cell? ⟨b, off + i, none⟩ = some (.int .i64 (zs[i]?.getD 0)) := by
    rcases hr with h0 | ⟨b', off', he, hc⟩
    · omega
    · cases he; exact hc
  refine (callsIn_wide (n := 6)).1 ?_
  refine callsIn_of_wp_marks Try.func210 rfl trivial ?_ rfl
  simp only [Try.ntmps210, List.size_toArray, List.length_cons, List.length_nil, Nat.reduceAdd, Nat.reduceSub, Array.replicate_succ, Array.replicate_zero, List.push_toArray, List.append_toArray, List.nil_append, List.cons_append]
  have hmk := run_make_row' (P := Try.prog) 25 2 (.int .i64 0) 8 Try.underlying25 info_i64 rfl .i64 .i64 n (by omega) (by omega)
  gi_wp2_with (refine ⟨trivial, ?_⟩; gi_at_call 270; refine (callsIn_wide.2 (c_lastOnes _ _ _ _ _)).mono ?_; rintro e w' ⟨rfl, rfl⟩)
  have BA := (((((Box.alloc w #[.func (.func 109) #[] #[]] 74).past (.cells (madeCells #[.int .i64 0] n) 2)).past (.cells #[.slice (some ⟨w.heap.size + 1, 0, none⟩) n n] 25)).past (.cells #[.slice (some ⟨b, off, none⟩) n cap] 25)).past (.cells #[.int .i64 (long : Int)] 2))
  have BT := (((Box.alloc_at ((w.alloc (.cells #[.func (.func 109) #[] #[]] 74)).alloc (.cells (madeCells #[.int .i64 0] n) 2)) #[.slice (some ⟨w.heap.size + 1, 0, none⟩) n n] 25 (b := w.heap.size + 1 + 1) (by simp)).past (.cells #[.slice (some ⟨b, off, none⟩) n cap] 25)).past (.cells #[.int .i64 (long : Int)] 2))
  have BS := ((Box.alloc_at (((w.alloc (.cells #[.func (.func 109) #[] #[]] 74)).alloc (.cells (madeCells #[.int .i64 0] n) 2)).alloc (.cells #[.slice (some ⟨w.heap.size + 1, 0, none⟩) n n] 25)) #[.slice (some ⟨b, off, none⟩) n cap] 25 (b := w.heap.size + 1 + 1 + 1) (by simp)).past (.cells #[.int .i64 (long : Int)] 2))
  have BL := (Box.alloc_at ((((w.alloc (.cells #[.func (.func 109) #[] #[]] 74)).alloc (.cells (madeCells #[.int .i64 0] n) 2)).alloc (.cells #[.slice (some ⟨w.heap.size + 1, 0, none⟩) n n] 25)).alloc (.cells #[.slice (some ⟨b, off, none⟩) n cap] 25)) #[.int .i64 (long : Int)] 2 (b := w.heap.size + 1 + 1 + 1 + 1) (by simp))
  have RW := ((((World.rowIs_made (w.alloc (.cells #[.func (.func 109) #[] #[]] 74)) (.int .i64 0) n 2).alloc (.cells #[.slice (some ⟨w.heap.size + 1, 0, none⟩) n n] 25)).alloc (.cells #[.slice (some ⟨b, off, none⟩) n cap] 25)).alloc (.cells #[.int .i64 (long : Int)] 2))
  rw [show (w.alloc (.cells #[.func (.func 109) #[] #[]] 74)).heap.size = w.heap.size + 1 by simp] at RW
  have X5 : Ext w (((((w.alloc (.cells #[.func (.func 109) #[] #[]] 74)).alloc (.cells (madeCells #[.int .i64 0] n) 2)).alloc (.cells #[.slice (some ⟨w.heap.size + 1, 0, none⟩) n n] 25)).alloc (.cells #[.slice (some ⟨b, off, none⟩) n cap] 25)).alloc (.cells #[.int .i64 (long : Int)] 2)) := by (repeat (first | assumption | exact Ext.refl _ | (with_reducible refine Ext.stepS ?_ (by first | exact Nat.le_refl _ | (simp; done) | (simp; omega)) _) | (with_reducible refine Ext.stepN ?_ _) | (with_reducible refine Ext.stepD ?_) | (with_reducible refine Ext.stepA ?_ _)))
  obtain ⟨W5, hW5⟩ : ∃ W5, (((((w.alloc (.cells #[.func (.func 109) #[] #[]] 74)).alloc (.cells (madeCells #[.int .i64 0] n) 2)).alloc (.cells #[.slice (some ⟨w.heap.size + 1, 0, none⟩) n n] 25)).alloc (.cells #[.slice (some ⟨b, off, none⟩) n cap] 25)).alloc (.cells #[.int .i64 (long : Int)] 2)) = W5 := ⟨_, rfl⟩
  have hs5 : W5.heap.size = w.heap.size + 5 := by rw [← hW5]; simp
  rw [hW5] at BA BT BS BL RW X5
  rw [hW5]
  refine wpIn_rangeFunc_ownG rfl (by omega) (gf := 295) (lb := #[.pointer (some ⟨w.heap.size + 1 + 1 + 1, 0, none⟩), .pointer (some ⟨w.heap.size + 1 + 1 + 1 + 1, 0, none⟩)]) rfl trivial (enters_of Try.func295 (by kernel_rfl) rfl)
    (lastOnes_stops Fence.wide 5 trivial rfl (by omega) (w.heap.size + 1 + 1 + 1) (w.heap.size + 1 + 1 + 1 + 1) W5.heap.size (w.heap.size + 1) b off n cap long hn hnc hl1 hl2 (by omega) (by omega) (by omega) (by omega) W5 (BS.cell 0) (BL.cell 0))
    (fun h k => h.trans k) (fun W l o o' hl h h1 h2 => kpG_b W l o o' hl h h1 h2) (Below.refl _ _) (fun _ => rfl)
    (LorI w W5.heap.size w.heap.size (w.heap.size + 1 + 1) (w.heap.size + 1) 2 (.func (.func 109) #[] #[]) n (fun i => oftI (lastZ zs long i))) (fun _ _ _ => False)
    (LorI.ownFrom (by omega) (by omega) (by omega) (by omega)) (fun _ _ _ _ _ hs _ _ => hs)
    ⟨Nat.le_refl _, BA.cell 0, BT.cell 0, RW.congr fun i hi => by unfold contF; rfl, X5⟩
    (fun x => { tmps := #[.slice (some ⟨b, off, none⟩) n cap, .int .i64 (long : Int), .func (.func 109) #[] #[], undef, undef, .pointer (some ⟨w.heap.size, 0, none⟩), .slice none 0 0, .pointer (some ⟨w.heap.size + 1 + 1, 0, none⟩), .int .i64 (x.1 : Int), lastV b off long x.1, .slice (some ⟨b, off, none⟩) n cap, .int .i64 (n : Int), .slice (some ⟨w.heap.size + 1, 0, none⟩) n n, .slice (some ⟨b, off, none⟩) n cap, .int .i64 (long : Int), .func (.func 295) #[] #[.pointer (some ⟨w.heap.size + 1 + 1 + 1, 0, none⟩), .pointer (some ⟨w.heap.size + 1 + 1 + 1 + 1, 0, none⟩)], .int .i64 (x.1 : Int), lastV b off long x.1, undef, undef, undef, undef, undef, undef, undef], defers := [] }) ?assign ?body ?done ?stop
  case assign =>
    intro l x W K hK
    unfold lastE
    gi_wp2
    exact hK
  case body =>
    rintro l pre x W hI _
    have a1 := hI.a
    have a2 := hI.ts
    have a3 := hI.r.cell x.2
    have a4 := hI.r.frozen x.1
    have hxn : (x.1 : Int) < (n : Int) := by have := x.2; omega
    have hx0 : (0 : Int) ≤ (x.1 : Int) := by omega
    have HRD := Lib.hid (reads_last hz (fun i hi => (Ext.some hI.b (hcs i hi))) long x.1 x.2)
    obtain ⟨v, hv⟩ : ∃ v, oftI (lastZ zs long x.1) = v := ⟨_, rfl⟩
    have HV := Lib.hid hv
    have HI := Lib.hid hI
    have hx3 : x.1 < n := x.2
    have hmx : Try.prog.follows .mixedOrders = true := by kernel_rfl
    unfold lastV
    gi_wp2
    gi_region_with_o (refine ⟨trivial, ?_⟩; gi_at_call 109; refine (CallsIn.inRound l (callsIn_wide.2 (c_mostOften _ _ _ _ _ _ (by omega) (by omega) (hmany.last _ _) (HRD.out.on (by (repeat (first | assumption | exact Ext.refl _ | (with_reducible refine Ext.stepS ?_ (by first | exact Nat.le_refl _ | (simp; done) | (simp; omega)) _) | (with_reducible refine Ext.stepN ?_ _) | (with_reducible refine Ext.stepD ?_) | (with_reducible refine Ext.stepA ?_ _)))))))).mono ?_; rw [HV.out]; rintro e w' ⟨rfl, x'⟩; have XW : Ext W w' := Ext.trans (by (repeat (first | assumption | exact Ext.refl _ | (with_reducible refine Ext.stepS ?_ (by first | exact Nat.le_refl _ | (simp; done) | (simp; omega)) _) | (with_reducible refine Ext.stepN ?_ _) | (with_reducible refine Ext.stepD ?_) | (with_reducible refine Ext.stepA ?_ _)))) x'; have b1 := XW.some a1; have b2 := XW.some a2; have b3 := XW.some a3; have b4 := (HI.out.r.of_block (Below.block XW _ HI.out.r.lt)).frozen x.1; clear x')
    all_goals gi_wp2
    all_goals (try go_bits)
    all_goals
      clear a1 a2 a3 a4 b1 b2 b3 b4 HRD hmx
      have st := fun (W1 : World) (X : Ext W W1) => HI.out.step (by omega) (by omega) (by omega) (by omega) (by omega) (by omega) x X HV.out
      first | exact st _ XW | exact st _ (XW.trans (Ext.drew _)) | exact st _ (XW.trans (Ext.drewN _ _)) | exact st _ ((XW.trans (Ext.drew _)).trans (Ext.drew _))
  case done =>
    rintro D ys W hD rfl hI hK
    have a2 := hI.ts
    gi_wp2
    refine ⟨by simp, .inl ⟨_, _, rfl, run_takeDeferred hK, ?_⟩⟩
    have hDg : w.heap.size + 1 < D := by omega
    have hgb := (grownBy_putObj' W D (Obj.deferred none)).block (w.heap.size + 1) hI.r.lt (fun e => by cases e; omega)
    have hrow := hI.r.of_block hgb
    have hExt : Ext w (W.putObj D (Obj.deferred none)) := hI.b.grown (grownBy_putObj' W D _) (Below.size hI.b) (fun k e => by cases e; omega)
    exact ⟨_, results_tmp rfl _ _ _, some ⟨w.heap.size + 1, 0, none⟩, n, rfl, own_made (by rw [ints_length, tellZ_length]; exact hz) (by omega) hrow (fun i hi => by
      rw [ints_get _ i (by rw [tellZ_length]; omega), contF_all n _ i hi]
      have := tellZ_get oftI zs long i (by omega)
      unfold getI at this
      rw [this]), hExt⟩
  case stop =>
    rintro D c pre W _ _ h _
    exact h.elim
end Go.Proofs.Ytfbapbgiegploaa
/- OftenInWindow by the program. -/
namespace Go.Proofs.Ytfbapbgiegploaa
open Go.ChangeShapes Go.WideShapes Go.ChangeAt Go.RowKit
set_option linter.unusedVariables false
set_option maxHeartbeats 2000000 in
theorem c_tellReadings_Oft (a : Option Addr) (n cap : Nat) (zs : List Int) (long : Int) (w : World) {rz : List Int} {rb : Bool} (hv : tellR oftI zs long = (rz, rb)) (hm : n ≤ 1048576) (h : Reads w a n (ints zs)) (hnc : n ≤ cap) :
    Calls Try.prog 103 #[.slice a n cap, .int .i64 long, .func (.func 109) #[] #[]] w (RetSB 2 rz.length (ints rz) rb w) := by
  have hz := h.int.1
  have H := Lib.hid h
  have HM := Lib.hid (show n ≤ maxLen by unfold maxLen; omega)
  cases h1 : inB 1 (n : Int) 128
  · rw [tellR_no (readB_1 (by rw [hz]; exact h1))] at hv
    cases hv
    have H1 := Lib.hid h1
    clear h1 h hm hz
    go_enter Try.func103, Try.ntmps103
    go_wp2_with fail
    refine (c_impl_isStreamSize_s _ _ H1.out).mono ?_; rintro e w' ⟨rfl, rfl⟩
    go_wp2
    go_ret2
    exact RetSB.nil _ _
  cases h2 : manyB 1000000 zs
  · rw [tellR_no (readB_2 h2)] at hv
    cases hv
    have H1 := Lib.hid h1
    have H2 := Lib.hid h2
    clear h1 h2 h hm hz
    go_enter Try.func103, Try.ntmps103
    go_wp2_with fail
    refine (c_impl_isStreamSize_s _ _ H1.out).mono ?_; rintro e w' ⟨rfl, rfl⟩
    go_wp2_with fail
    refine (c_areWithin_q _ _ _ zs 1000000 _ (by omega) (by omega) HM.out H2.out H.out).mono ?_; rintro e w' ⟨rfl, x'⟩
    have X := Lib.hid x'
    clear x'
    go_wp2
    go_ret2
    exact ⟨none, 0, rfl, Own.nil _ _ _ _, X.out⟩
  cases h3 : inB 1 long 128
  · rw [tellR_no (readB_3 h3)] at hv
    cases hv
    have H1 := Lib.hid h1
    have H2 := Lib.hid h2
    have H3 := Lib.hid h3
    clear h1 h2 h3 h hm hz
    go_enter Try.func103, Try.ntmps103
    go_wp2_with fail
    refine (c_impl_isStreamSize_s _ _ H1.out).mono ?_; rintro e w' ⟨rfl, rfl⟩
    go_wp2_with fail
    refine (c_areWithin_q _ _ _ zs 1000000 _ (by omega) (by omega) HM.out H2.out H.out).mono ?_; rintro e u1 ⟨rfl, x'⟩
    have X := Lib.hid x'
    clear x'
    go_wp2_with fail
    refine (c_impl_isStreamSize_s _ _ H3.out).mono ?_; rintro e w' ⟨rfl, rfl⟩
    go_wp2
    go_ret2
    exact ⟨none, 0, rfl, Own.nil _ _ _ _, X.out⟩
  · rw [tellR_yes (readB_y (by rw [hz]; exact h1) h2 h3)] at hv
    cases hv
    obtain ⟨b1, b2⟩ := inB_is.1 h1
    obtain ⟨b3, b4⟩ := inB_is.1 h3
    obtain ⟨L, hL⟩ : ∃ L : Nat, long.toNat = L := ⟨_, rfl⟩
    obtain rfl : long = (L : Int) := by omega
    rw [hL]
    obtain ⟨b, off, rfl⟩ : ∃ b off, a = some ⟨b, off, none⟩ := by
      rcases h.2 with h0 | ⟨b', off', rfl, _⟩
      · omega
      · exact ⟨_, _, rfl⟩
    have H1 := Lib.hid h1
    have H2 := Lib.hid h2
    have H3 := Lib.hid h3
    have HTL := Lib.hid (show (tellZ oftI zs L).length = n by rw [tellZ_length]; exact hz)
    have HMA := Lib.hid (many_of h2)
    clear h1 h2 h3 h hm hz hL
    go_enter Try.func103, Try.ntmps103
    go_wp2_with fail
    refine (c_impl_isStreamSize_s _ _ H1.out).mono ?_; rintro e w' ⟨rfl, rfl⟩
    go_wp2_with fail
    refine (c_areWithin_q _ _ _ zs 1000000 _ (by omega) (by omega) HM.out H2.out H.out).mono ?_; rintro e u1 ⟨rfl, x'⟩
    have X := Lib.hid x'
    clear x'
    go_wp2_with fail
    refine (c_impl_isStreamSize_s _ _ H3.out).mono ?_; rintro e w' ⟨rfl, rfl⟩
    go_wp2_with fail
    refine (c_tellLast_Oft b off n cap L zs _ (by omega) (by omega) hnc (by omega) (by omega) HMA.out (H.out.on X.out)).mono ?_; rintro e u2 ⟨a2, c2, rfl, o2, x2⟩
    have O2 := Lib.hid o2
    have X2 := Lib.hid (X.out.trans x2)
    have SZ := Lib.hid X.out.size
    clear o2 x2
    go_wp2
    go_ret2
    exact ⟨a2, c2, by first | (rw [HTL.out]; done) | (rw [HTL.out]; rfl), by rw [HTL.out]; exact O2.out.wide SZ.out (Nat.le_refl _), X2.out⟩
theorem c_impl_OftenInWindow (a : Option Addr) (n cap : Nat) (zs : List Int) (long : Int) (w : World) {rz : List Int} {rb : Bool} (hv : tellR oftI zs long = (rz, rb)) (hm : n ≤ 1048576) (h : Reads w a n (ints zs)) (hnc : n ≤ cap) :
    Calls Try.prog 21 #[.slice a n cap, .int .i64 long] w (RetSB 2 rz.length (ints rz) rb w) := by
  have H := Lib.hid h
  have HV := Lib.hid hv
  clear h hv
  go_enter Try.func21, Try.ntmps21
  go_wp2_with fail
  refine (c_tellReadings_Oft _ _ _ zs long _ HV.out hm H.out hnc).mono ?_; rintro e u1 ⟨a1, c1, rfl, o1, x1⟩
  have O1 := Lib.hid o1
  have X1 := Lib.hid x1
  clear o1 x1
  go_wp2
  go_ret2
  exact ⟨_, _, rfl, O1.out, X1.out⟩
end Go.Proofs.Ytfbapbgiegploaa
