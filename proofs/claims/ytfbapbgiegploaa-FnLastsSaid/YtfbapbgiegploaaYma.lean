/- Means of last ones: plain; the sum and the mean of a list by the program. -/
import Derived.Test.YtfbapbgiegploaaSms
import Derived.Test.YtfbapbgiegploaaKin
import Derived.Test.YtfbapbgiegploaaAll
import Derived.Test.YtfbapbgiegploaaCis3
import Derived.RangeFuncNested
import Derived.RangeFuncBound
import Derived.RangeFuncCalls
import Derived.RangeFuncLeaves
import Derived.Shelf.Abstract
import Derived.Shelf.RegionOpen
import Derived.WalkKit
import Derived.OwnWalkIn
import Derived.TacticsInMore
import Derived.LoopNIn
import Derived.LoopIn
namespace Go.Proofs.Ytfbapbgiegploaa
open Go.ChangeShapes Go.WideShapes Go.ChangeAt Go.RowKit Go.Proofs.Ytfbapbgiegploaa.Flo
set_option linter.unusedVariables false
attribute [local go_sem] run_fl_add run_fl_sub run_fl_mul run_fl_quo run_conv run_store_float run_store_complex
def lastG (zs : List Nat) (L i : Nat) : List Nat := (zs.take (i + 1)).drop (i + 1 - L)
theorem lastG_length (zs : List Nat) (L i : Nat) (hi : i < zs.length) : (lastG zs L i).length = i + 1 - (i + 1 - L) := by
  unfold lastG; rw [List.length_drop, List.length_take]; omega
theorem lastG_get (zs : List Nat) (L i k : Nat) (hk : k < i + 1 - (i + 1 - L)) : (lastG zs L i)[k]?.getD 0 = zs[i + 1 - L + k]?.getD 0 := by
  unfold lastG; rw [List.getElem?_drop, List.getElem?_take_of_lt (by omega)]
def sumV (zs : List Nat) : Option Nat := zs.foldl (fun s x => fop .add .f32 s (fv .f32 x)) (some 0)
theorem sumV_step (zs : List Nat) (k : Nat) (h : k < zs.length) : sumV (zs.take (k + 1)) = fop .add .f32 (sumV (zs.take k)) (fv .f32 (zs[k]?.getD 0)) := by
  unfold sumV
  rw [List.take_succ_eq_append_getElem h, List.foldl_append]
  simp [h]
def meanV (zs : List Nat) : Option Nat := fop .quo .f32 (sumV zs) (fv .f32 (floatOfInt .f32 (zs.length : Int)))
def mnV (zs : List Nat) (L i : Nat) : Option Nat := meanV (lastG zs L i)
def mnB (zs : List Nat) (long : Int) : Bool := stB zs && inB 1 long 128
def mnA (zs : List Nat) (L : Nat) : Bool := allTo zs.length fun i => finV (mnV zs L i)
def mnL (zs : List Nat) (L : Nat) : List Nat := (List.range zs.length).map fun i => (mnV zs L i).getD 0
def mnR (zs : List Nat) (long : Int) : List Nat × Bool := if mnB zs long && mnA zs long.toNat then (mnL zs long.toNat, true) else ([], false)
theorem mnR_yes {zs : List Nat} {long : Int} (h : mnB zs long = true) (h2 : mnA zs long.toNat = true) : mnR zs long = (mnL zs long.toNat, true) := if_pos (by rw [h, h2]; rfl)
theorem mnR_no {zs : List Nat} {long : Int} (h : (mnB zs long && mnA zs long.toNat) = false) : mnR zs long = ([], false) := if_neg (by rw [h]; decide)
theorem mnL_length (zs : List Nat) (L : Nat) : (mnL zs L).length = zs.length := by simp [mnL]
theorem mnL_get (zs : List Nat) (L i : Nat) (h : i < zs.length) : (mnL zs L)[i]? = some ((mnV zs L i).getD 0) := by simp [mnL, h]
theorem mnL_take (zs : List Nat) (L k : Nat) (h : k < zs.length) : flos ((mnL zs L).take (k + 1)) = flos ((mnL zs L).take k) ++ [.float .f32 ((mnV zs L k).getD 0)] := by
  have hl := mnL_length zs L
  have hg := mnL_get zs L k h
  rw [List.getElem?_eq_getElem (by omega)] at hg
  unfold flos
  rw [List.take_succ_eq_append_getElem (by omega), List.map_append, Option.some.inj hg]
  rfl
theorem mnB_ok {zs : List Nat} {long : Int} (h : mnB zs long = true) : StOk zs ∧ 1 ≤ long ∧ long ≤ 128 := by
  unfold mnB at h
  rw [Bool.and_eq_true] at h
  exact ⟨st_ok h.1, inB_is.1 h.2⟩
theorem mnR_le {zs : List Nat} {long : Int} {c : List Nat} {b : Bool} (h : mnR zs long = (c, b)) : c.length ≤ 1048576 := by
  cases hs : (mnB zs long && mnA zs long.toNat)
  · rw [mnR_no hs] at h; simp only [Prod.mk.injEq] at h; obtain ⟨rfl, rfl⟩ := h; exact Nat.zero_le _
  · rw [Bool.and_eq_true] at hs
    rw [mnR_yes hs.1 hs.2] at h; simp only [Prod.mk.injEq] at h; obtain ⟨rfl, rfl⟩ := h
    rw [mnL_length]
    have := (mnB_ok hs.1).1.hi
    omega
theorem mnA_no {zs : List Nat} {long : Int} {k : Nat} (hk : k < zs.length) (h : finV (mnV zs long.toNat k) = false) : mnR zs long = ([], false) := mnR_no (by rw [show mnA zs long.toNat = false from allTo_no hk h]; simp)
theorem mn_end {zs : List Nat} {long : Int} {n : Nat} {B : Nat → Nat} (hz : zs.length = n) (hs : mnB zs long = true) (h : ∀ j, j < n → fv .f32 (B j) = mnV zs long.toNat j) :
    (finB (bitsOfN B n) = true ∧ mnR zs long = (bitsOfN B n, true)) ∨ (finB (bitsOfN B n) = false ∧ mnR zs long = ([], false)) := by
  have hl := bitsOfN_length B n
  cases hf : finB (bitsOfN B n)
  · right
    refine ⟨rfl, ?_⟩
    have : ∃ j, j < n ∧ isFin .f32 (B j) = false := by
      apply Classical.byContradiction
      intro hn
      have : finB (bitsOfN B n) = true := finB_mk fun i hi => by
        rw [hl] at hi
        rw [bitsOfN_get B n i hi]
        cases q : isFin .f32 (B i)
        · exact absurd ⟨i, hi, q⟩ hn
        · exact q
      rw [this] at hf; cases hf
    obtain ⟨j, hj, hq⟩ := this
    exact mnA_no (k := j) (by rw [hz]; exact hj) (by rw [← h j hj, finV_fv]; exact hq)
  · left
    have hfin : ∀ j, j < n → isFin .f32 (B j) = true := fun j hj => by
      have := finB_at hf (i := j) (by rw [hl]; exact hj)
      rw [bitsOfN_get B n j hj] at this
      exact this
    have hall : mnA zs long.toNat = true := allTo_yes fun j hj => by rw [← h j (by omega), finV_fv]; exact hfin j (by omega)
    refine ⟨rfl, ?_⟩
    rw [mnR_yes hs hall]
    have : mnL zs long.toNat = bitsOfN B n := by
      unfold mnL bitsOfN
      rw [hz]
      refine List.map_congr_left fun j hj => ?_
      have hj' := List.mem_range.1 hj
      rw [← h j hj', fin_fvS (hfin j hj')]; rfl
    rw [this]
theorem reads_lastG {w : World} {b off n : Nat} {zs : List Nat} (hz : zs.length = n) (hc : ∀ i, i < n → w.cell? ⟨b, off + i, none⟩ = some (.float .f32 (zs[i]?.getD 0))) (L i : Nat) (hi : i < n) :
    Reads w (some ⟨b, off + (i + 1 - L), none⟩) (i + 1 - (i + 1 - L)) (flos (lastG zs L i)) := by
  refine ⟨by rw [flos_length, lastG_length _ _ _ (by omega)], .inr ⟨b, _, rfl, fun j hj => ?_⟩⟩
  rw [flos_get _ _ (by rw [lastG_length _ _ _ (by omega)]; exact hj), lastG_get zs L i j hj, Nat.add_assoc]
  exact hc _ (by omega)
set_option maxHeartbeats 1000000 in
theorem c_impl_SumNumbers_m (b off len cap : Nat) (zs : List Nat) (w : World) (hl : len ≤ 256) (hz : zs.length = len) (hc : ∀ i, i < len → w.cell? ⟨b, off + i, none⟩ = some (.float .f32 (zs[i]?.getD 0))) :
    Calls Try.prog 218 #[.slice (some ⟨b, off, none⟩) len cap] w fun e w' => ∃ r q, e = .returned (.tuple #[.float .f32 r, .bool true]) ∧ fv .f32 r = sumV zs ∧ r < 4294967296 ∧ w' = w.drewN q := by
  have hl' : (len : Int) ≤ 256 := by omega
  have HC := Lib.hid hc
  have HZ := Lib.hid hz
  clear hc hz
  go_enter Try.func218, Try.ntmps218
  go_wp2
  go_loopw [4, 12] (fun s i wr => ∃ (k n r : Nat), k ≤ len ∧ i = .int .i64 k ∧ wr = w.drewN n ∧ s = .float .f32 r ∧ fv .f32 r = sumV (zs.take k) ∧ r < 2 ^ FloatKind.f32.format.width) (fun _ i _ => len - (intOf i).toNat)
  case atStart => exact ⟨0, 0, 0, Nat.zero_le _, rfl, rfl, rfl, fv_some (by rw [dec_zero]; rfl), Nat.two_pow_pos _⟩
  case round =>
    obtain ⟨k, n, r, hk, rfl, rfl, rfl, hv, hr⟩ := hrel
    have HV := Lib.hid hv
    have HR := Lib.hid hr
    clear hv hr
    by_cases hlt : k < len
    · have hcell := HC.out k hlt
      have HS := Lib.hid (sumV_step zs k (by rw [HZ.out]; exact hlt))
      go_wp2
      go_roundw
      case rel => exact ⟨k + 1, _, _, by omega, by go_num, rfl, rfl, by rw [HS.out, fv_flR, HV.out], flR_lt _ _ _ _ _⟩
      case measure => simp [intOf]; omega
    · obtain rfl : k = len := by omega
      go_wp2
      go_ret2
      exact ⟨r, n, rfl, by rw [HV.out, List.take_of_length_le (Nat.le_of_eq HZ.out)], HR.out, rfl⟩
set_option maxHeartbeats 1000000 in
theorem c_impl_meanOf (b off d cap : Nat) (zs : List Nat) (w : World) {v : Option Nat} (hv : meanV zs = v) (h1 : 1 ≤ d) (h2 : d ≤ 256) (h : Reads w (some ⟨b, off, none⟩) d (flos zs)) :
    Calls Try.prog 114 #[.slice (some ⟨b, off, none⟩) d cap] w fun e w' => ∃ f, e = .returned (.float .f32 f) ∧ fv .f32 f = v ∧ f < 4294967296 ∧ Ext w w' := by
  obtain ⟨hz, hr⟩ := h.flo
  have HC := Lib.hid (show ∀ i, i < d → w.cell? ⟨b, off + i, none⟩ = some (.float .f32 (zs[i]?.getD 0)) by
    rcases hr with h0 | ⟨b', o', he, hc⟩
    · omega
    · cases he; exact hc)
  have HZ := Lib.hid hz
  have HV := Lib.hid hv
  have hdI : (d : Int) ≤ 256 := by omega
  clear hv hz hr h
  go_enter Try.func114, Try.ntmps114
  go_wp2_with fail
  refine (c_impl_SumNumbers_m b off d cap zs _ h2 HZ.out HC.out).mono ?_; rintro e w1 ⟨r, q, rfl, hr, hlt, rfl⟩
  have HR := Lib.hid hr
  clear hr hlt
  go_wp2
  go_ret
  exact ⟨_, rfl, by rw [← HV.out, fv_flR, HR.out]; unfold meanV; rw [HZ.out], flR_lt _ _ _ _ _, by (repeat (first | assumption | exact Ext.refl _ | (with_reducible refine Ext.stepS ?_ (by first | exact Nat.le_refl _ | (simp; done) | (simp; omega)) _) | (with_reducible refine Ext.stepN ?_ _) | (with_reducible refine Ext.stepD ?_) | (with_reducible refine Ext.stepA ?_ _)))⟩
end Go.Proofs.Ytfbapbgiegploaa
/- The last ones of each index of a list (plain). -/
namespace Go.Proofs.Ytfbapbgiegploaa
open Go.ChangeShapes Go.WideShapes Go.ChangeAt Go.RowKit
set_option linter.unusedVariables false
structure OpOk (op : Int → Int → Int) : Prop where
  c : ∀ a b, op a b = op b a
  a : ∀ a b c, op (op a b) c = op a (op b c)
  i : ∀ a, op a a = a
theorem fold_out {op : Int → Int → Int} (h : OpOk op) : ∀ (l : List Int) (x y : Int), l.foldl op (op x y) = op x (l.foldl op y)
  | [], x, y => rfl
  | z :: l, x, y => by rw [List.foldl_cons, List.foldl_cons, h.a, fold_out h l x (op y z)]
theorem fold_in {op : Int → Int → Int} (h : OpOk op) : ∀ (l : List Int) (x y : Int), x ∈ l → op x (l.foldl op y) = l.foldl op y
  | [], x, y, hx => absurd hx (List.not_mem_nil)
  | z :: l, x, y, hx => by
    rw [List.foldl_cons]
    rcases List.mem_cons.1 hx with rfl | hx
    · rw [← fold_out h, show op x (op y x) = op y x by rw [h.c y x, ← h.a, h.i]]
    · exact fold_in h l x _ hx
theorem fold_same {op : Int → Int → Int} (h : OpOk op) {l : List Int} {x y : Int} (hx : x ∈ l) (hy : y ∈ l) : l.foldl op x = l.foldl op y := by
  rw [← fold_in h l x y hx, ← fold_out h, h.c, fold_out h, fold_in h l y x hy]
def minI (a b : Int) : Int := if b < a then b else a
def maxI (a b : Int) : Int := if a < b then b else a
theorem minI_ok : OpOk minI := ⟨fun a b => by unfold minI; omega, fun a b c => by unfold minI; omega, fun a => by unfold minI; omega⟩
theorem maxI_ok : OpOk maxI := ⟨fun a b => by unfold maxI; omega, fun a b c => by unfold maxI; omega, fun a => by unfold maxI; omega⟩
/-- the last ones, at most 'long', of index i -/
def lastZ (zs : List Int) (long i : Nat) : List Int := (zs.take (i + 1)).drop (i + 1 - long)
theorem lastZ_length (zs : List Int) (long i : Nat) (hi : i < zs.length) : (lastZ zs long i).length = i + 1 - (i + 1 - long) := by
  unfold lastZ; rw [List.length_drop, List.length_take]; omega
theorem lastZ_get (zs : List Int) (long i k : Nat) (hk : k < i + 1 - (i + 1 - long)) : getI (lastZ zs long i) k = getI zs (i + 1 - long + k) := by
  unfold lastZ getI; rw [List.getElem?_drop, List.getElem?_take_of_lt (by omega)]
def tellZ (f : List Int → Int) (zs : List Int) (long : Nat) : List Int := (List.range zs.length).map fun i => f (lastZ zs long i)
theorem tellZ_length (f : List Int → Int) (zs : List Int) (long : Nat) : (tellZ f zs long).length = zs.length := by unfold tellZ; rw [List.length_map, List.length_range]
theorem tellZ_get (f : List Int → Int) (zs : List Int) (long i : Nat) (hi : i < zs.length) : getI (tellZ f zs long) i = f (lastZ zs long i) := by
  unfold tellZ getI; rw [List.getElem?_map, List.getElem?_range hi]; rfl
def readB (zs : List Int) (long : Int) : Bool := decide (1 ≤ zs.length ∧ zs.length ≤ 128) && (manyB 1000000 zs && decide (1 ≤ long ∧ long ≤ 128))
def tellR (f : List Int → Int) (zs : List Int) (long : Int) : List Int × Bool := if readB zs long then (tellZ f zs long.toNat, true) else ([], false)
theorem tellR_yes {f : List Int → Int} {zs : List Int} {long : Int} (h : readB zs long = true) : tellR f zs long = (tellZ f zs long.toNat, true) := by unfold tellR; rw [h]; rfl
theorem tellR_no {f : List Int → Int} {zs : List Int} {long : Int} (h : readB zs long = false) : tellR f zs long = ([], false) := by unfold tellR; rw [h]; rfl
structure ReadOk (zs : List Int) (long : Int) : Prop where
  n1 : 1 ≤ zs.length
  n2 : zs.length ≤ 128
  m : manyB 1000000 zs = true
  l1 : 1 ≤ long
  l2 : long ≤ 128
theorem read_ok {zs : List Int} {long : Int} (h : readB zs long = true) : ReadOk zs long := by
  unfold readB at h
  simp only [Bool.and_eq_true, decide_eq_true_eq] at h
  exact ⟨h.1.1, h.1.2, h.2.1, h.2.2.1, h.2.2.2⟩
theorem tellR_le {f : List Int → Int} {zs : List Int} {long : Int} {rz : List Int} {rb : Bool} (h : tellR f zs long = (rz, rb)) : rz.length ≤ 1048576 := by
  cases hb : readB zs long
  · rw [tellR_no hb] at h; cases h; exact Nat.zero_le _
  · rw [tellR_yes hb] at h; cases h; rw [tellZ_length]; have := (read_ok hb).n2; omega
def leastI (l : List Int) : Int := l.foldl minI (getI l 0)
def mostI (l : List Int) : Int := l.foldl maxI (getI l 0)
/-- beginning with any number of the list -/
theorem fold_from {op : Int → Int → Int} (h : OpOk op) (l : List Int) (k : Nat) (hk : k < l.length) : l.foldl op (getI l k) = l.foldl op (getI l 0) :=
  fold_same h (by unfold getI; rw [List.getElem?_eq_getElem hk]; exact List.getElem_mem hk) (by unfold getI; rw [List.getElem?_eq_getElem (show 0 < l.length by omega)]; exact List.getElem_mem _)
/-- one more -/
theorem fold_take {op : Int → Int → Int} (l : List Int) (x : Int) (k : Nat) (hk : k < l.length) : (l.take (k + 1)).foldl op x = op ((l.take k).foldl op x) (getI l k) := by
  rw [List.take_succ_eq_append_getElem hk, List.foldl_append]; unfold getI; rw [List.getElem?_eq_getElem hk]; rfl
theorem reads_last {w : World} {b off n : Nat} {zs : List Int} (hz : zs.length = n) (hc : ∀ i, i < n → w.cell? ⟨b, off + i, none⟩ = some (.int .i64 (zs[i]?.getD 0))) (long i : Nat) (hi : i < n) :
    Reads w (some ⟨b, off + (i + 1 - long), none⟩) (i + 1 - (i + 1 - long)) (ints (lastZ zs long i)) := by
  refine ⟨by rw [ints_length, lastZ_length _ _ _ (by omega)], .inr ⟨b, _, rfl, fun j hj => ?_⟩⟩
  rw [ints_get _ _ (by rw [lastZ_length _ _ _ (by omega)]; exact hj)]
  have h1 := lastZ_get zs long i j hj
  unfold getI at h1
  rw [h1, Nat.add_assoc]
  exact hc _ (by omega)
end Go.Proofs.Ytfbapbgiegploaa
/- The iterator over the last ones of each index. -/
namespace Go.Proofs.Ytfbapbgiegploaa
open Go.ChangeShapes Go.WideShapes Go.ChangeAt Go.RowKit Go.Shelf
set_option linter.unusedVariables false
attribute [local go_sem] Oper.semAt_some
/-- a place below n -/
abbrev At (n : Nat) := { k : Nat // k < n }
def lastV (b off long : Nat) (k : Nat) : Value := .slice (some ⟨b, off + (k + 1 - long), none⟩) (k + 1 - (k + 1 - long)) (k + 1 - (k + 1 - long))
def lastE (b off long n : Nat) (x : At n) : Array Value := #[.int .i64 (x.1 : Int), lastV b off long x.1]
def uptoA (n : Nat) : (k : Nat) → k ≤ n → List (At n)
  | 0, _ => []
  | k + 1, h => uptoA n k (by omega) ++ [⟨k, by omega⟩]
theorem uptoA_length (n : Nat) : ∀ (k : Nat) (h : k ≤ n), (uptoA n k h).length = k
  | 0, _ => rfl
  | k + 1, h => by unfold uptoA; rw [List.length_append, uptoA_length n k]; rfl
theorem uptoA_mem (n : Nat) : ∀ (k : Nat) (h : k ≤ n) (i : Nat) (hi : i < k), (⟨i, by omega⟩ : At n) ∈ uptoA n k h
  | 0, _, i, hi => absurd hi (Nat.not_lt_zero _)
  | k + 1, h, i, hi => by
    unfold uptoA
    by_cases e : i = k
    · subst e; exact List.mem_append.2 (.inr (by simp))
    · exact List.mem_append.2 (.inl (uptoA_mem n k (by omega) i (by omega)))
/-- all below m but block g lies as it lay -/
def KpG (m g : Nat) (W W' : World) : Prop := W.heap.size ≤ W'.heap.size ∧ ∀ k, k < m → k ≠ g → W'.heap[k]? = W.heap[k]?
theorem KpG.trans {m g : Nat} {A B C : World} (h : KpG m g A B) (k : KpG m g B C) : KpG m g A C := ⟨Nat.le_trans h.1 k.1, fun j hj hg => (k.2 j hj hg).trans (h.2 j hj hg)⟩
theorem KpG.refl (m g : Nat) (W : World) : KpG m g W W := ⟨Nat.le_refl _, fun _ _ _ => rfl⟩
theorem KpG.cell {m g : Nat} {W W' : World} (h : KpG m g W W') {b o : Nat} (hb : b < m) (hg : b ≠ g) {v : Value} (hc : W.cell? ⟨b, o, none⟩ = some v) : W'.cell? ⟨b, o, none⟩ = some v := by
  rw [World.cell?_of_block (w := W) (h.2 b hb hg)]; exact hc
theorem c_lastOnes (a : Option Addr) (n cap : Nat) (long : Int) (w : World) :
    Calls Try.prog 270 #[.slice a n cap, .int .i64 long] w fun e w' => e = .returned (.func (.func 295) #[] #[.pointer (some ⟨w.heap.size, 0, none⟩), .pointer (some ⟨w.heap.size + 1, 0, none⟩)]) ∧ w' = (w.alloc (.cells #[.slice a n cap] 25)).alloc (.cells #[.int .i64 long] 2) := by
  go_enter Try.func270, Try.ntmps270
  go_wp2
  go_ret
  exact ⟨rfl, rfl⟩
set_option maxRecDepth 100000 in
set_option maxHeartbeats 2000000 in
theorem lastOnes1_in (F : Fence) (N : Nat) (hF : F.fn 295) (hro : F.round = none) (hN : 1 ≤ N) (l Bs Bl m g b off n cap long : Nat) (hn : n ≤ 128) (hnc : n ≤ cap) (hl1 : 1 ≤ long) (hl2 : long ≤ 128) (hbs : Bs < m) (hbl : Bl < m) (gs : Bs ≠ g) (gl : Bl ≠ g) (J Jx : List (At n) → World → Prop)
    (hY : ∀ pre x W, J pre W → pre.length < n → YieldAt F (N - 1) Try.prog l (lastE b off long n x) W fun e W' =>
      (e = .returned (.bool true) ∧ J (pre ++ [x]) W' ∧ KpG m g W W') ∨ (e = .returned (.bool false) ∧ Jx (pre ++ [x]) W'))
    (W : World) (hBs : W.cell? ⟨Bs, 0, none⟩ = some (.slice (some ⟨b, off, none⟩) n cap)) (hBl : W.cell? ⟨Bl, 0, none⟩ = some (.int .i64 (long : Int))) (h0 : J [] W) :
    CallsIn F N Try.prog 295 #[.func (.yield l) #[] #[], .pointer (some ⟨Bs, 0, none⟩), .pointer (some ⟨Bl, 0, none⟩)] W fun e W' => (∃ v, e = .returned v) ∧
      ((∃ ys, ys = uptoA n n (Nat.le_refl _) ∧ J ys W') ∨ (∃ pre, (∃ k h, pre = uptoA n k h) ∧ Jx pre W')) := by
  refine callsIn_of_wp Try.func295 rfl hF ?_ hro
  simp only [Try.ntmps295, List.size_toArray, List.length_cons, List.length_nil, Nat.reduceAdd, Nat.reduceSub, Array.replicate_succ, Array.replicate_zero, List.push_toArray, List.append_toArray, List.nil_append, List.cons_append]
  gi_wp2
  gi_loopw [9] (fun i wr => ∃ (k : Nat) (h : k ≤ n), i = .int .i64 k ∧ J (uptoA n k h) wr ∧ KpG m g W wr)
    (fun i _ => n - (intOf i).toNat)
  case atStart => exact ⟨0, Nat.zero_le _, rfl, h0, KpG.refl _ _ _⟩
  case round =>
    obtain ⟨k, hk, rfl, hJs, hnx⟩ := hrel
    by_cases hlt : k < n
    · obtain ⟨fn, tmps, assign, body, hy, hR⟩ := hY _ ⟨k, hlt⟩ wr hJs (by rw [uptoA_length]; exact hlt)
      have c1 := hnx.cell hbs gs hBs
      have c2 := hnx.cell hbl gl hBl
      obtain ⟨f, hf⟩ : ∃ f, k + 1 - long = f := ⟨_, rfl⟩
      obtain ⟨d, hd⟩ : ∃ d, k + 1 - f = d := ⟨_, rfl⟩
      have i1 : (k : Int) < (n : Int) := by omega
      have i2 : max ((k : Int) + 1 - (long : Int)) 0 = (f : Int) := by omega
      have i3 : (if ((k : Int) + 1 - (long : Int)) < 0 then (0 : Int) else (k : Int) + 1 - (long : Int)) = (f : Int) := by omega
      unfold lastE lastV at hy
      dsimp only at hy
      rw [hf, hd] at hy
      gi_wp2
      refine hR.mono ?_
      rintro e W3 (⟨rfl, hJ3, hk3⟩ | ⟨rfl, hJx3⟩)
      · gi_wp2
        go_roundw
        case rel => exact ⟨k + 1, by omega, by first | rfl | simp | go_num, hJ3, hnx.trans hk3⟩
        case measure => simp [intOf]; omega
      · gi_wp2
        refine bodyPost_ret (results_none rfl _ _ _) rfl ?_
        exact ⟨⟨_, rfl⟩, .inr ⟨_, ⟨k + 1, by omega, rfl⟩, hJx3⟩⟩
    · obtain rfl : k = n := by omega
      gi_wp2
      go_end0
      exact ⟨⟨_, rfl⟩, .inl ⟨_, rfl, hJs⟩⟩
theorem lastOnes_stops (F : Fence) (N : Nat) (hF : F.fn 295) (hro : F.round = none) (hN : 1 ≤ N) (Bs Bl m g b off n cap long : Nat) (hn : n ≤ 128) (hnc : n ≤ cap) (hl1 : 1 ≤ long) (hl2 : long ≤ 128) (hbs : Bs < m) (hbl : Bl < m) (gs : Bs ≠ g) (gl : Bl ≠ g)
    (w : World) (hBs : w.cell? ⟨Bs, 0, none⟩ = some (.slice (some ⟨b, off, none⟩) n cap)) (hBl : w.cell? ⟨Bl, 0, none⟩ = some (.int .i64 (long : Int))) :
    SeqStopsK F N Try.prog 295 #[.pointer (some ⟨Bs, 0, none⟩), .pointer (some ⟨Bl, 0, none⟩)] (lastE b off long n) (KpG m g) (fun ys => ys = uptoA n n (Nat.le_refl _)) (fun pre => ∃ k h, pre = uptoA n k h) n w := fun l J Jx W hW _ _ hY h0 =>
  lastOnes1_in F N hF hro hN l Bs Bl m g b off n cap long hn hnc hl1 hl2 hbs hbl gs gl J Jx hY W
    ((hW.cell (p := ⟨Bs, 0, none⟩) (World.block_lt_of_cell? w ⟨Bs, 0, none⟩ hBs)).trans hBs) ((hW.cell (p := ⟨Bl, 0, none⟩) (World.block_lt_of_cell? w ⟨Bl, 0, none⟩ hBl)).trans hBl) h0
end Go.Proofs.Ytfbapbgiegploaa
/- The iterator over the last ones of each index of a list of floats. -/
namespace Go.Proofs.Ytfbapbgiegploaa
open Go.ChangeShapes Go.WideShapes Go.ChangeAt Go.RowKit Go.Shelf
set_option linter.unusedVariables false
attribute [local go_sem] Oper.semAt_some
theorem c_lastOnesG (a : Option Addr) (n cap : Nat) (long : Int) (w : World) :
    Calls Try.prog 217 #[.slice a n cap, .int .i64 long] w fun e w' => e = .returned (.func (.func 275) #[] #[.pointer (some ⟨w.heap.size, 0, none⟩), .pointer (some ⟨w.heap.size + 1, 0, none⟩)]) ∧ w' = (w.alloc (.cells #[.slice a n cap] 27)).alloc (.cells #[.int .i64 long] 2) := by
  go_enter Try.func217, Try.ntmps217
  go_wp2
  go_ret
  exact ⟨rfl, rfl⟩
set_option maxRecDepth 100000 in
set_option maxHeartbeats 2000000 in
theorem lastOnesG1_in (F : Fence) (N : Nat) (hF : F.fn 275) (hro : F.round = none) (hN : 1 ≤ N) (l Bs Bl m g b off n cap long : Nat) (hn : n ≤ 128) (hnc : n ≤ cap) (hl1 : 1 ≤ long) (hl2 : long ≤ 128) (hbs : Bs < m) (hbl : Bl < m) (gs : Bs ≠ g) (gl : Bl ≠ g) (J Jx : List (At n) → World → Prop)
    (hY : ∀ pre x W, J pre W → pre.length < n → YieldAt F (N - 1) Try.prog l (lastE b off long n x) W fun e W' =>
      (e = .returned (.bool true) ∧ J (pre ++ [x]) W' ∧ KpG m g W W') ∨ (e = .returned (.bool false) ∧ Jx (pre ++ [x]) W'))
    (W : World) (hBs : W.cell? ⟨Bs, 0, none⟩ = some (.slice (some ⟨b, off, none⟩) n cap)) (hBl : W.cell? ⟨Bl, 0, none⟩ = some (.int .i64 (long : Int))) (h0 : J [] W) :
    CallsIn F N Try.prog 275 #[.func (.yield l) #[] #[], .pointer (some ⟨Bs, 0, none⟩), .pointer (some ⟨Bl, 0, none⟩)] W fun e W' => (∃ v, e = .returned v) ∧
      ((∃ ys, ys = uptoA n n (Nat.le_refl _) ∧ J ys W') ∨ (∃ pre, (∃ k h, pre = uptoA n k h) ∧ Jx pre W')) := by
  refine callsIn_of_wp Try.func275 rfl hF ?_ hro
  simp only [Try.ntmps275, List.size_toArray, List.length_cons, List.length_nil, Nat.reduceAdd, Nat.reduceSub, Array.replicate_succ, Array.replicate_zero, List.push_toArray, List.append_toArray, List.nil_append, List.cons_append]
  gi_wp2
  gi_loopw [9] (fun i wr => ∃ (k : Nat) (h : k ≤ n), i = .int .i64 k ∧ J (uptoA n k h) wr ∧ KpG m g W wr)
    (fun i _ => n - (intOf i).toNat)
  case atStart => exact ⟨0, Nat.zero_le _, rfl, h0, KpG.refl _ _ _⟩
  case round =>
    obtain ⟨k, hk, rfl, hJs, hnx⟩ := hrel
    by_cases hlt : k < n
    · obtain ⟨fn, tmps, assign, body, hy, hR⟩ := hY _ ⟨k, hlt⟩ wr hJs (by rw [uptoA_length]; exact hlt)
      have c1 := hnx.cell hbs gs hBs
      have c2 := hnx.cell hbl gl hBl
      obtain ⟨f, hf⟩ : ∃ f, k + 1 - long = f := ⟨_, rfl⟩
      obtain ⟨d, hd⟩ : ∃ d, k + 1 - f = d := ⟨_, rfl⟩
      have i1 : (k : Int) < (n : Int) := by omega
      have i2 : max ((k : Int) + 1 - (long : Int)) 0 = (f : Int) := by omega
      have i3 : (if ((k : Int) + 1 - (long : Int)) < 0 then (0 : Int) else (k : Int) + 1 - (long : Int)) = (f : Int) := by omega
      unfold lastE lastV at hy
      dsimp only at hy
      rw [hf, hd] at hy
      gi_wp2
      refine hR.mono ?_
      rintro e W3 (⟨rfl, hJ3, hk3⟩ | ⟨rfl, hJx3⟩)
      · gi_wp2
        go_roundw
        case rel => exact ⟨k + 1, by omega, by first | rfl | simp | go_num, hJ3, hnx.trans hk3⟩
        case measure => simp [intOf]; omega
      · gi_wp2
        refine bodyPost_ret (results_none rfl _ _ _) rfl ?_
        exact ⟨⟨_, rfl⟩, .inr ⟨_, ⟨k + 1, by omega, rfl⟩, hJx3⟩⟩
    · obtain rfl : k = n := by omega
      gi_wp2
      go_end0
      exact ⟨⟨_, rfl⟩, .inl ⟨_, rfl, hJs⟩⟩
theorem lastOnesG_stops (F : Fence) (N : Nat) (hF : F.fn 275) (hro : F.round = none) (hN : 1 ≤ N) (Bs Bl m g b off n cap long : Nat) (hn : n ≤ 128) (hnc : n ≤ cap) (hl1 : 1 ≤ long) (hl2 : long ≤ 128) (hbs : Bs < m) (hbl : Bl < m) (gs : Bs ≠ g) (gl : Bl ≠ g)
    (w : World) (hBs : w.cell? ⟨Bs, 0, none⟩ = some (.slice (some ⟨b, off, none⟩) n cap)) (hBl : w.cell? ⟨Bl, 0, none⟩ = some (.int .i64 (long : Int))) :
    SeqStopsK F N Try.prog 275 #[.pointer (some ⟨Bs, 0, none⟩), .pointer (some ⟨Bl, 0, none⟩)] (lastE b off long n) (KpG m g) (fun ys => ys = uptoA n n (Nat.le_refl _)) (fun pre => ∃ k h, pre = uptoA n k h) n w := fun l J Jx W hW _ _ hY h0 =>
  lastOnesG1_in F N hF hro hN l Bs Bl m g b off n cap long hn hnc hl1 hl2 hbs hbl gs gl J Jx hY W
    ((hW.cell (p := ⟨Bs, 0, none⟩) (World.block_lt_of_cell? w ⟨Bs, 0, none⟩ hBs)).trans hBs) ((hW.cell (p := ⟨Bl, 0, none⟩) (World.block_lt_of_cell? w ⟨Bl, 0, none⟩ hBl)).trans hBl) h0
end Go.Proofs.Ytfbapbgiegploaa
/- The list of what is told of the last ones of each index, by the program. -/
namespace Go.Proofs.Ytfbapbgiegploaa
open Go.ChangeShapes Go.WideShapes Go.ChangeAt Go.RowKit Go.Shelf
set_option linter.unusedVariables false
attribute [local go_sem] Oper.semAt_some
/-- what is told at the places that have come -/
def contF (n : Nat) (f : Nat → Int) (pre : List (At n)) (i : Nat) : Value := if pre.any (fun x => x.1 == i) then .int .i64 (f i) else .int .i64 0
theorem contF_snoc (n : Nat) (f : Nat → Int) (pre : List (At n)) (x : At n) (i : Nat) : contF n f (pre ++ [x]) i = if i = x.1 then .int .i64 (f x.1) else contF n f pre i := by
  unfold contF
  rw [List.any_append]
  by_cases e : i = x.1
  · subst e; simp
  · rw [if_neg e]
    have : ([x].any fun y => y.1 == i) = false := by simp; exact fun h => e h.symm
    rw [this, Bool.or_false]
theorem contF_all (n : Nat) (f : Nat → Int) (i : Nat) (hi : i < n) : contF n f (uptoA n n (Nat.le_refl _)) i = .int .i64 (f i) := by
  unfold contF
  rw [if_pos]
  rw [List.any_eq_true]
  exact ⟨⟨i, hi⟩, uptoA_mem n n (Nat.le_refl _) i hi, by simp⟩
/-- between two rounds -/
structure LorI (w : World) (m p q g : Nat) (t : TypeId) (fv : Value) (n : Nat) (f : Nat → Int) (pre : List (At n)) (W : World) : Prop where
  s : m ≤ W.heap.size
  a : W.cell? ⟨p, 0, none⟩ = some fv
  ts : W.cell? ⟨q, 0, none⟩ = some (.slice (some ⟨g, 0, none⟩) n n)
  r : W.rowIs g t n (contF n f pre)
  b : Below w.heap.size w W
theorem LorI.keep {w : World} {m p q g : Nat} {t : TypeId} {fv : Value} {n : Nat} {f : Nat → Int} {pre : List (At n)} {W W' : World} (hp : p < m) (hq : q < m) (hg : g < m) (h : LorI w m p q g t fv n f pre W) (hs : W.heap.size ≤ W'.heap.size) (hk : ∀ k, k < m → W'.heap[k]? = W.heap[k]?) (hb : Below w.heap.size w W') : LorI w m p q g t fv n f pre W' :=
  ⟨Nat.le_trans h.s hs, by rw [World.cell?_of_block (w := W) (hk p hp)]; exact h.a, by rw [World.cell?_of_block (w := W) (hk q hq)]; exact h.ts, h.r.of_block (hk g hg), hb⟩
theorem LorI.ownFrom {w : World} {m p q g : Nat} {t : TypeId} {fv : Value} {n : Nat} {f : Nat → Int} (hp : p < m) (hq : q < m) (hg : g < m) (hm : w.heap.size ≤ m) : OwnFrom m (LorI w m p q g t fv n f) := fun pre W W' row h hgr hr =>
  h.keep hp hq hg hgr.size (fun k hk => hgr.block k (Nat.lt_of_lt_of_le hk h.s) (fun e => by have := (hr k e.symm).1; omega)) (h.b.grown hgr (Below.size h.b) (fun k e => Nat.le_trans hm (hr k e).1))
theorem keepsFrom_ext {B : Nat} {W W' : World} (h : Ext W W') : KeepsFrom B W W' := ⟨Ext.size h, fun k o _ hk _ => by rw [Below.block h k (Array.getElem?_eq_some_iff.1 hk).1]; exact hk⟩
theorem KpG.of_touch {m g : Nat} {W W' : World} (h : Touch g (g + 1) W W') (hm : m ≤ W.heap.size) : KpG m g W W' := ⟨h.size, fun k hk hg => h.block k (Nat.lt_of_lt_of_le hk hm) (by omega)⟩
theorem kpG_b {m g : Nat} (W : World) (l : Nat) (o o' : Obj) (hl : m ≤ l) (h : W.heap[l]? = some o) (_ : o.isCells = false) (_ : o.isWalk = false) : KpG m g W (W.putObj l o') :=
  ⟨(grownBy_putObj' W l o').size, fun k hk _ => (grownBy_putObj' W l o').block k (by have := (Array.getElem?_eq_some_iff.1 h).1; omega) (fun e => by cases e; omega)⟩
/-- a round: what is told is stored -/
theorem LorI.step {w : World} {m p q g : Nat} {t : TypeId} {fv : Value} {n : Nat} {f : Nat → Int} {pre : List (At n)} {W W1 : World} (hp : p < m) (hq : q < m) (hg : g < m) (hgw : w.heap.size ≤ g) (pg : p ≠ g) (qg : q ≠ g) (h : LorI w m p q g t fv n f pre W) (x : At n) (X : Ext W W1) {v : Int} (hv : f x.1 = v) :
    KeepsFrom m W (W1.setCell ⟨g, x.1, none⟩ (.int .i64 v)) ∧ KpG m g W (W1.setCell ⟨g, x.1, none⟩ (.int .i64 v)) ∧ LorI w m p q g t fv n f (pre ++ [x]) (W1.setCell ⟨g, x.1, none⟩ (.int .i64 v)) := by
  have T : Touch g (g + 1) W (W1.setCell ⟨g, x.1, none⟩ (.int .i64 v)) := (Touch.of_ext X g (g + 1)).trans (Touch.setCell _ (a := ⟨g, x.1, none⟩) (Nat.le_refl _) (Nat.lt_succ_self _) _)
  refine ⟨(keepsFrom_ext X).trans ((KeepsOthers.setCell _ _ _).from _), KpG.of_touch T h.s, ⟨Nat.le_trans h.s T.size, ?_, ?_, ?_, Touch.below h.b T hgw (Below.size h.b)⟩⟩
  · rw [World.cell?_of_block (w := W) (T.block p (Nat.lt_of_lt_of_le hp h.s) (by show p < g ∨ g + 1 ≤ p; omega))]; exact h.a
  · rw [World.cell?_of_block (w := W) (T.block q (Nat.lt_of_lt_of_le hq h.s) (by show q < g ∨ g + 1 ≤ q; omega))]; exact h.ts
  · refine ((h.r.of_block (Below.block X g (Nat.lt_of_lt_of_le hg h.s))).set x.1 (.int .i64 v)).congr fun i hi => ?_
    rw [contF_snoc, hv]
end Go.Proofs.Ytfbapbgiegploaa
/- The means of the last ones of each index, by the program. -/
namespace Go.Proofs.Ytfbapbgiegploaa
open Go.ChangeShapes Go.WideShapes Go.ChangeAt Go.RowKit Go.Shelf Go.Proofs.Ytfbapbgiegploaa.Flo
set_option linter.unusedVariables false
attribute [local go_sem] Oper.semAt_some run_store_float
def contG (n : Nat) (F : Nat → Nat) (pre : List (At n)) (i : Nat) : Value := if pre.any (fun x => x.1 == i) then .float .f32 (F i) else .float .f32 0
theorem any_snoc (n : Nat) (pre : List (At n)) (x : At n) (i : Nat) : (pre ++ [x]).any (fun y => y.1 == i) = (pre.any (fun y => y.1 == i) || decide (i = x.1)) := by
  rw [List.any_append]
  congr 1
  by_cases e : i = x.1
  · subst e; simp
  · rw [decide_eq_false e]; simp; exact fun h => e h.symm
theorem contG_snoc (n : Nat) (F : Nat → Nat) (pre : List (At n)) (x : At n) (f i : Nat) : contG n (fun j => if j = x.1 then f else F j) (pre ++ [x]) i = if i = x.1 then .float .f32 f else contG n F pre i := by
  unfold contG
  rw [any_snoc]
  by_cases e : i = x.1
  · rw [decide_eq_true e, Bool.or_true, if_pos rfl]; dsimp only; rw [if_pos e, if_pos e]
  · rw [decide_eq_false e, Bool.or_false]; dsimp only; rw [if_neg e, if_neg e]
theorem uptoA_any (n i : Nat) (hi : i < n) : (uptoA n n (Nat.le_refl _)).any (fun x => x.1 == i) = true := by
  rw [List.any_eq_true]
  exact ⟨⟨i, hi⟩, uptoA_mem n n (Nat.le_refl _) i hi, by simp⟩
theorem contG_all (n : Nat) (F : Nat → Nat) (i : Nat) (hi : i < n) : contG n F (uptoA n n (Nat.le_refl _)) i = .float .f32 (F i) := by
  unfold contG; rw [if_pos (uptoA_any n i hi)]
/-- between two rounds -/
structure MnI (w : World) (m p q g : Nat) (t : TypeId) (fv0 : Value) (n : Nat) (V : Nat → Option Nat) (pre : List (At n)) (W : World) : Prop where
  s : m ≤ W.heap.size
  a : W.cell? ⟨p, 0, none⟩ = some fv0
  ts : W.cell? ⟨q, 0, none⟩ = some (.slice (some ⟨g, 0, none⟩) n n)
  r : ∃ F : Nat → Nat, W.rowIs g t n (contG n F pre) ∧ ∀ i, pre.any (fun x => x.1 == i) = true → fv .f32 (F i) = V i ∧ F i < 4294967296
  b : Below w.heap.size w W
theorem MnI.ownFrom {w : World} {m p q g : Nat} {t : TypeId} {fv0 : Value} {n : Nat} {V : Nat → Option Nat} (hp : p < m) (hq : q < m) (hg : g < m) (hm : w.heap.size ≤ m) : OwnFrom m (MnI w m p q g t fv0 n V) := fun pre W W' row h hgr hr => by
  have hk : ∀ k, k < m → W'.heap[k]? = W.heap[k]? := fun k hk => hgr.block k (Nat.lt_of_lt_of_le hk h.s) (fun e => by have := (hr k e.symm).1; omega)
  obtain ⟨F, h1, h2⟩ := h.r
  exact ⟨Nat.le_trans h.s hgr.size, by rw [World.cell?_of_block (w := W) (hk p hp)]; exact h.a, by rw [World.cell?_of_block (w := W) (hk q hq)]; exact h.ts, ⟨F, h1.of_block (hk g hg), h2⟩, h.b.grown hgr (Below.size h.b) (fun k e => Nat.le_trans hm (hr k e).1)⟩
theorem MnI.step {w : World} {m p q g : Nat} {t : TypeId} {fv0 : Value} {n : Nat} {V : Nat → Option Nat} {pre : List (At n)} {W W1 : World} (hp : p < m) (hq : q < m) (hg : g < m) (hgw : w.heap.size ≤ g) (pg : p ≠ g) (qg : q ≠ g) (h : MnI w m p q g t fv0 n V pre W) (x : At n) (X : Ext W W1) {f : Nat} (hv : fv .f32 f = V x.1) (hlt : f < 4294967296) :
    KeepsFrom m W (W1.setCell ⟨g, x.1, none⟩ (.float .f32 f)) ∧ KpG m g W (W1.setCell ⟨g, x.1, none⟩ (.float .f32 f)) ∧ MnI w m p q g t fv0 n V (pre ++ [x]) (W1.setCell ⟨g, x.1, none⟩ (.float .f32 f)) := by
  have T : Touch g (g + 1) W (W1.setCell ⟨g, x.1, none⟩ (.float .f32 f)) := (Touch.of_ext X g (g + 1)).trans (Touch.setCell _ (a := ⟨g, x.1, none⟩) (Nat.le_refl _) (Nat.lt_succ_self _) _)
  obtain ⟨F, h1, h2⟩ := h.r
  refine ⟨(keepsFrom_ext X).trans ((KeepsOthers.setCell _ _ _).from _), KpG.of_touch T h.s, ⟨Nat.le_trans h.s T.size, ?_, ?_, ⟨fun j => if j = x.1 then f else F j, ?_, ?_⟩, Touch.below h.b T hgw (Below.size h.b)⟩⟩
  · rw [World.cell?_of_block (w := W) (T.block p (Nat.lt_of_lt_of_le hp h.s) (by show p < g ∨ g + 1 ≤ p; omega))]; exact h.a
  · rw [World.cell?_of_block (w := W) (T.block q (Nat.lt_of_lt_of_le hq h.s) (by show q < g ∨ g + 1 ≤ q; omega))]; exact h.ts
  · refine ((h1.of_block (Below.block X g (Nat.lt_of_lt_of_le hg h.s))).set x.1 (.float .f32 f)).congr fun i hi => ?_
    rw [contG_snoc]
  · intro i hi
    rw [any_snoc] at hi
    dsimp only
    by_cases e : i = x.1
    · rw [if_pos e, e]; exact ⟨hv, hlt⟩
    · rw [decide_eq_false e, Bool.or_false] at hi
      rw [if_neg e]; exact h2 i hi
/-- what is told of each index -/
def RetMn (n : Nat) (V : Nat → Option Nat) (w : World) (e : Ending) (w' : World) : Prop := ∃ (F : Nat → Nat) (a : Option Addr) (c : Nat), e = .returned (.slice a n c) ∧ Own 28 w' w.heap.size w'.heap.size a n c (flos (bitsOfN F n)) ∧ (∀ i, i < n → fv .f32 (F i) = V i ∧ F i < 4294967296) ∧ Ext w w'
set_option maxRecDepth 100000 in
set_option maxHeartbeats 4000000 in
theorem c_tellLast_mean (b off n cap long : Nat) (zs : List Nat) (w : World) (h1 : 1 ≤ n) (hn : n ≤ 128) (hnc : n ≤ cap) (hl1 : 1 ≤ long) (hl2 : long ≤ 128) (h : Reads w (some ⟨b, off, none⟩) n (flos zs)) :
    Calls Try.prog 113 #[.slice (some ⟨b, off, none⟩) n cap, .int .i64 (long : Int), .func (.func 114) #[] #[]] w (RetMn n (mnV zs long) w) := by
  obtain ⟨hz, hr⟩ := h.flo
  have hcs : ∀ i, i < n → w.cell? ⟨b, off + i, none⟩ = some (.float .f32 (zs[i]?.getD 0)) := by
    rcases hr with h0 | ⟨b', off', he, hc⟩
    · omega
    · cases he; exact hc
  refine (callsIn_wide (n := 6)).1 ?_
  refine callsIn_of_wp_marks Try.func113 rfl trivial ?_ rfl
  simp only [Try.ntmps113, List.size_toArray, List.length_cons, List.length_nil, Nat.reduceAdd, Nat.reduceSub, Array.replicate_succ, Array.replicate_zero, List.push_toArray, List.append_toArray, List.nil_append, List.cons_append]
  have hmk := run_make_row' (P := Try.prog) 27 28 (.float .f32 0) 4 Try.underlying27 info_f32 rfl .i64 .i64 n (by omega) (by omega)
  gi_wp2_with (refine ⟨trivial, ?_⟩; gi_at_call 217; refine (callsIn_wide.2 (c_lastOnesG _ _ _ _ _)).mono ?_; rintro e w' ⟨rfl, rfl⟩)
  have BA := (((((Box.alloc w #[.func (.func 114) #[] #[]] 135).past (.cells (madeCells #[.float .f32 0] n) 28)).past (.cells #[.slice (some ⟨w.heap.size + 1, 0, none⟩) n n] 27)).past (.cells #[.slice (some ⟨b, off, none⟩) n cap] 27)).past (.cells #[.int .i64 (long : Int)] 2))
  have BT := (((Box.alloc_at ((w.alloc (.cells #[.func (.func 114) #[] #[]] 135)).alloc (.cells (madeCells #[.float .f32 0] n) 28)) #[.slice (some ⟨w.heap.size + 1, 0, none⟩) n n] 27 (b := w.heap.size + 1 + 1) (by simp)).past (.cells #[.slice (some ⟨b, off, none⟩) n cap] 27)).past (.cells #[.int .i64 (long : Int)] 2))
  have BS := ((Box.alloc_at (((w.alloc (.cells #[.func (.func 114) #[] #[]] 135)).alloc (.cells (madeCells #[.float .f32 0] n) 28)).alloc (.cells #[.slice (some ⟨w.heap.size + 1, 0, none⟩) n n] 27)) #[.slice (some ⟨b, off, none⟩) n cap] 27 (b := w.heap.size + 1 + 1 + 1) (by simp)).past (.cells #[.int .i64 (long : Int)] 2))
  have BL := (Box.alloc_at ((((w.alloc (.cells #[.func (.func 114) #[] #[]] 135)).alloc (.cells (madeCells #[.float .f32 0] n) 28)).alloc (.cells #[.slice (some ⟨w.heap.size + 1, 0, none⟩) n n] 27)).alloc (.cells #[.slice (some ⟨b, off, none⟩) n cap] 27)) #[.int .i64 (long : Int)] 2 (b := w.heap.size + 1 + 1 + 1 + 1) (by simp))
  have RW := ((((World.rowIs_made (w.alloc (.cells #[.func (.func 114) #[] #[]] 135)) (.float .f32 0) n 28).alloc (.cells #[.slice (some ⟨w.heap.size + 1, 0, none⟩) n n] 27)).alloc (.cells #[.slice (some ⟨b, off, none⟩) n cap] 27)).alloc (.cells #[.int .i64 (long : Int)] 2))
  rw [show (w.alloc (.cells #[.func (.func 114) #[] #[]] 135)).heap.size = w.heap.size + 1 by simp] at RW
  have X5 : Ext w (((((w.alloc (.cells #[.func (.func 114) #[] #[]] 135)).alloc (.cells (madeCells #[.float .f32 0] n) 28)).alloc (.cells #[.slice (some ⟨w.heap.size + 1, 0, none⟩) n n] 27)).alloc (.cells #[.slice (some ⟨b, off, none⟩) n cap] 27)).alloc (.cells #[.int .i64 (long : Int)] 2)) := by (repeat (first | assumption | exact Ext.refl _ | (with_reducible refine Ext.stepS ?_ (by first | exact Nat.le_refl _ | (simp; done) | (simp; omega)) _) | (with_reducible refine Ext.stepN ?_ _) | (with_reducible refine Ext.stepD ?_) | (with_reducible refine Ext.stepA ?_ _)))
  obtain ⟨W5, hW5⟩ : ∃ W5, (((((w.alloc (.cells #[.func (.func 114) #[] #[]] 135)).alloc (.cells (madeCells #[.float .f32 0] n) 28)).alloc (.cells #[.slice (some ⟨w.heap.size + 1, 0, none⟩) n n] 27)).alloc (.cells #[.slice (some ⟨b, off, none⟩) n cap] 27)).alloc (.cells #[.int .i64 (long : Int)] 2)) = W5 := ⟨_, rfl⟩
  have hs5 : W5.heap.size = w.heap.size + 5 := by rw [← hW5]; simp
  rw [hW5] at BA BT BS BL RW X5
  rw [hW5]
  refine wpIn_rangeFunc_ownG rfl (by omega) (gf := 275) (lb := #[.pointer (some ⟨w.heap.size + 1 + 1 + 1, 0, none⟩), .pointer (some ⟨w.heap.size + 1 + 1 + 1 + 1, 0, none⟩)]) rfl trivial (enters_of Try.func275 (by kernel_rfl) rfl)
    (lastOnesG_stops Fence.wide 5 trivial rfl (by omega) (w.heap.size + 1 + 1 + 1) (w.heap.size + 1 + 1 + 1 + 1) W5.heap.size (w.heap.size + 1) b off n cap long hn hnc hl1 hl2 (by omega) (by omega) (by omega) (by omega) W5 (BS.cell 0) (BL.cell 0))
    (fun h k => h.trans k) (fun W l o o' hl h h1 h2 => kpG_b W l o o' hl h h1 h2) (Below.refl _ _) (fun _ => rfl)
    (MnI w W5.heap.size w.heap.size (w.heap.size + 1 + 1) (w.heap.size + 1) 28 (.func (.func 114) #[] #[]) n (mnV zs long)) (fun _ _ _ => False)
    (MnI.ownFrom (by omega) (by omega) (by omega) (by omega)) (fun _ _ _ _ _ hs _ _ => hs)
    ⟨Nat.le_refl _, BA.cell 0, BT.cell 0, ⟨fun _ => 0, RW.congr fun i hi => by unfold contG; rfl, fun i hi => by cases hi⟩, X5⟩
    (fun x => { tmps := #[.slice (some ⟨b, off, none⟩) n cap, .int .i64 (long : Int), .func (.func 114) #[] #[], undef, undef, .pointer (some ⟨w.heap.size, 0, none⟩), .slice none 0 0, .pointer (some ⟨w.heap.size + 1 + 1, 0, none⟩), .int .i64 (x.1 : Int), lastV b off long x.1, .slice (some ⟨b, off, none⟩) n cap, .int .i64 (n : Int), .slice (some ⟨w.heap.size + 1, 0, none⟩) n n, .slice (some ⟨b, off, none⟩) n cap, .int .i64 (long : Int), .func (.func 275) #[] #[.pointer (some ⟨w.heap.size + 1 + 1 + 1, 0, none⟩), .pointer (some ⟨w.heap.size + 1 + 1 + 1 + 1, 0, none⟩)], .int .i64 (x.1 : Int), lastV b off long x.1, undef, undef, undef, undef, undef, undef, undef], defers := [] }) ?assign ?body ?done ?stop
  case assign =>
    intro l x W K hK
    unfold lastE
    gi_wp2
    exact hK
  case body =>
    rintro l pre x W hI _
    have a1 := hI.a
    have a2 := hI.ts
    obtain ⟨F, hrow, hF⟩ := hI.r
    have a3 := hrow.cell x.2
    have a4 := hrow.frozen x.1
    have hxn : (x.1 : Int) < (n : Int) := by have := x.2; omega
    have hx0 : (0 : Int) ≤ (x.1 : Int) := by omega
    have HRD := Lib.hid (reads_lastG hz (fun i hi => (Ext.some hI.b (hcs i hi))) long x.1 x.2)
    obtain ⟨v, hv⟩ : ∃ v, meanV (lastG zs long x.1) = v := ⟨_, rfl⟩
    have HV := Lib.hid hv
    have HI := Lib.hid hI
    have HROW := Lib.hid hrow
    have hx3 : x.1 < n := x.2
    have hmx : Try.prog.follows .mixedOrders = true := by kernel_rfl
    unfold lastV
    gi_wp2
    gi_region_with_o (refine ⟨trivial, ?_⟩; gi_at_call 114; refine (CallsIn.inRound l (callsIn_wide.2 (c_impl_meanOf _ _ _ _ _ _ HV.out (by omega) (by omega) (HRD.out.on (by (repeat (first | assumption | exact Ext.refl _ | (with_reducible refine Ext.stepS ?_ (by first | exact Nat.le_refl _ | (simp; done) | (simp; omega)) _) | (with_reducible refine Ext.stepN ?_ _) | (with_reducible refine Ext.stepD ?_) | (with_reducible refine Ext.stepA ?_ _)))))))).mono ?_; rintro e w' ⟨fm, rfl, hfm, hfl, x'⟩; have HFM := Lib.hid (And.intro hfm hfl); have XW : Ext W w' := Ext.trans (by (repeat (first | assumption | exact Ext.refl _ | (with_reducible refine Ext.stepS ?_ (by first | exact Nat.le_refl _ | (simp; done) | (simp; omega)) _) | (with_reducible refine Ext.stepN ?_ _) | (with_reducible refine Ext.stepD ?_) | (with_reducible refine Ext.stepA ?_ _)))) x'; have b1 := XW.some a1; have b2 := XW.some a2; have b3 := XW.some a3; have b4 := (HROW.out.of_block (Below.block XW _ HROW.out.lt)).frozen x.1; clear x' hfm hfl)
    all_goals gi_wp2
    all_goals (try go_bits)
    all_goals
      clear a1 a2 a3 a4 b1 b2 b3 b4 HRD hmx
      have st := fun (W1 : World) (X : Ext W W1) => HI.out.step (by omega) (by omega) (by omega) (by omega) (by omega) (by omega) x X (by rw [HFM.out.1]; exact HV.out.symm) HFM.out.2
      first | exact st _ XW | exact st _ (XW.trans (Ext.drew _)) | exact st _ (XW.trans (Ext.drewN _ _)) | exact st _ ((XW.trans (Ext.drew _)).trans (Ext.drew _))
  case done =>
    rintro D ys W hD rfl hI hK
    have a2 := hI.ts
    gi_wp2
    refine ⟨by simp, .inl ⟨_, _, rfl, run_takeDeferred hK, ?_⟩⟩
    have hDg : w.heap.size + 1 < D := by omega
    obtain ⟨F, hr0, hF⟩ := hI.r
    have hgb := (grownBy_putObj' W D (Obj.deferred none)).block (w.heap.size + 1) hr0.lt (fun e => by cases e; omega)
    have hrow := hr0.of_block hgb
    have hExt : Ext w (W.putObj D (Obj.deferred none)) := hI.b.grown (grownBy_putObj' W D _) (Below.size hI.b) (fun k e => by cases e; omega)
    exact ⟨_, results_tmp rfl _ _ _, F, some ⟨w.heap.size + 1, 0, none⟩, n, rfl, own_made (by rw [flos_length, bitsOfN_length]) (by omega) hrow (fun i hi => by
      rw [flos_get _ i (by rw [bitsOfN_length]; exact hi), contG_all n _ i hi, bitsOfN_get F n i hi]; rfl), fun i hi => hF i (uptoA_any n i hi), hExt⟩
  case stop =>
    rintro D c pre W _ _ h _
    exact h.elim
end Go.Proofs.Ytfbapbgiegploaa
/- MeansOfWindow by the program. -/
namespace Go.Proofs.Ytfbapbgiegploaa
open Go.ChangeShapes Go.WideShapes Go.ChangeAt Go.RowKit Go.Proofs.Ytfbapbgiegploaa.Flo
set_option linter.unusedVariables false
set_option maxHeartbeats 2000000 in
theorem c_impl_MeansOfWindow (a : Option Addr) (n cap : Nat) (zs : List Nat) (long : Int) (w : World) {rz : List Nat} {rb : Bool} (hv : mnR zs long = (rz, rb)) (hm : n ≤ 1048576) (h : Reads w a n (flos zs)) (hb : ∀ z ∈ zs, z < 4294967296) (hnc : n ≤ cap) :
    Calls Try.prog 22 #[.slice a n cap, .int .i64 long] w (RetSB 28 rz.length (flos rz) rb w) := by
  have hz := h.flo.1
  have H := Lib.hid h
  have HM := Lib.hid hm
  have HBT := Lib.hid hb
  clear hb
  cases h1 : stB zs
  · rw [mnR_no (by unfold mnB; rw [h1]; rfl)] at hv
    cases hv
    have H1 := Lib.hid h1
    clear h1 h hm hz
    go_enter Try.func22, Try.ntmps22
    go_wp2_with fail
    refine (c_impl_isStream _ _ _ zs _ H1.out HM.out H.out HBT.out).mono ?_; rintro e w1 ⟨rfl, q, rfl⟩
    go_wp2
    go_ret2
    exact ⟨none, 0, rfl, Own.nil _ _ _ _, Ext.drewN _ _⟩
  cases h2 : inB 1 long 128
  · rw [mnR_no (by unfold mnB; rw [h2]; simp)] at hv
    cases hv
    have H1 := Lib.hid h1
    have H2 := Lib.hid h2
    clear h1 h2 h hm hz
    go_enter Try.func22, Try.ntmps22
    go_wp2_with fail
    refine (c_impl_isStream _ _ _ zs _ H1.out HM.out H.out HBT.out).mono ?_; rintro e w1 ⟨rfl, q, rfl⟩
    go_wp2_with fail
    refine (c_impl_isStreamSize _ _ H2.out).mono ?_; rintro e w' ⟨rfl, rfl⟩
    go_wp2
    go_ret2
    exact ⟨none, 0, rfl, Own.nil _ _ _ _, Ext.drewN _ _⟩
  · have HMB := Lib.hid (show mnB zs long = true by unfold mnB; rw [h1, h2]; rfl)
    have ok := mnB_ok HMB.out
    have b1 := ok.1.lo
    have b2 := ok.1.hi
    have b3 := ok.2.1
    have b4 := ok.2.2
    rw [hz] at b1 b2
    have HV := Lib.hid hv
    obtain ⟨L, hL⟩ : ∃ L : Nat, long.toNat = L := ⟨_, rfl⟩
    obtain rfl : long = (L : Int) := by omega
    obtain ⟨b, off, rfl⟩ : ∃ b off, a = some ⟨b, off, none⟩ := by
      rcases h.2 with h0 | ⟨b', off', rfl, _⟩
      · omega
      · exact ⟨_, _, rfl⟩
    have H1 := Lib.hid h1
    have H2 := Lib.hid h2
    have HZ := Lib.hid hz
    clear h1 h2 h hm hz hL ok hv
    go_enter Try.func22, Try.ntmps22
    go_wp2_with fail
    refine (c_impl_isStream _ _ _ zs _ H1.out HM.out H.out HBT.out).mono ?_; rintro e w1 ⟨rfl, q, rfl⟩
    go_wp2_with fail
    refine (c_impl_isStreamSize _ _ H2.out).mono ?_; rintro e w' ⟨rfl, rfl⟩
    go_wp2_with fail
    refine (c_tellLast_mean b off n cap L zs _ b1 b2 hnc (by omega) (by omega) (H.out.on (Ext.drewN _ _))).mono ?_; rintro e u2 ⟨F, a2, c2, rfl, o2, hF, x2⟩
    have O2 := Lib.hid o2
    have X2 := Lib.hid ((Ext.drewN w q).trans x2)
    have HF := Lib.hid hF
    clear o2 x2 hF
    rcases mn_end HZ.out HMB.out (B := F) (fun j hj => by rw [show ((L : Int)).toNat = L from by omega]; exact (HF.out j hj).1) with ⟨e1, e2⟩ | ⟨e1, e2⟩
    · have E1 := Lib.hid e1
      have hv := HV.out
      rw [e2] at hv
      cases hv
      clear e1 e2
      go_wp2_with fail
      refine (c_impl_streamIf_yes _ _ _ (bitsOfN F n) _ E1.out (by unfold maxLen; omega) (bitsOfN_lt fun j hj => (HF.out j hj).2) O2.out.reads).mono ?_; rintro e u3 ⟨rfl, q3, rfl⟩
      go_wp2
      go_ret2
      exact ⟨a2, c2, by rw [bitsOfN_length]; rfl, by rw [bitsOfN_length]; exact (O2.out.on (Ext.drewN _ _)).wide (by simp [World.drewN]) (Nat.le_refl _), X2.out.trans (Ext.drewN _ _)⟩
    · have E1 := Lib.hid e1
      have hv := HV.out
      rw [e2] at hv
      cases hv
      clear e1 e2
      go_wp2_with fail
      refine (c_impl_streamIf_no _ _ _ (bitsOfN F n) _ E1.out (by unfold maxLen; omega) (bitsOfN_lt fun j hj => (HF.out j hj).2) O2.out.reads).mono ?_; rintro e u3 ⟨rfl, q3, rfl⟩
      go_wp2
      go_ret2
      exact ⟨none, 0, rfl, Own.nil _ _ _ _, X2.out.trans (Ext.drewN _ _)⟩
end Go.Proofs.Ytfbapbgiegploaa
