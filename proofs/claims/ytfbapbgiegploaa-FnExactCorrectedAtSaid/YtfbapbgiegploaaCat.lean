/- CellsAt: both sides. -/
import Derived.Test.YtfbapbgiegploaaPlb
namespace Go.Proofs.Ytfbapbgiegploaa
open Go.ChangeShapes Go.WideShapes Go.ChangeAt Go.RowKit
set_option linter.unusedVariables false
/-- the counts at the places of a key -/
def atZ (m d : Nat) (S : Int) (zs : List Int) (key : Int) : List Int := (List.range d).map fun i => zs[placeN m S key i]?.getD 0
theorem atZ_length (m d : Nat) (S key : Int) (zs : List Int) : (atZ m d S zs key).length = d := by simp [atZ]
theorem atZ_get (m d : Nat) (S key : Int) (zs : List Int) (i : Nat) (h : i < d) : (atZ m d S zs key)[i]?.getD 0 = zs[placeN m S key i]?.getD 0 := by simp [atZ, h]
def countsR (W D S : Int) (zs : List Int) (key : Int) : List Int × Bool := if cellsB W D S zs && keyB key then (atZ W.toNat D.toNat S zs key, true) else ([], false)
theorem countsR_y {m d : Nat} {S key : Int} {zs : List Int} (h : CellsOk m d S zs) (hk : keyB key = true) : countsR m d S zs key = (atZ m d S zs key, true) := by
  unfold countsR
  rw [h.cellsB, hk]
  simp
theorem both_no {a b : Bool} (h : ¬ (a = true ∧ b = true)) : (a && b) = false := by cases a <;> cases b <;> simp_all
theorem placesR_no {W D S key : Int} {zs : List Int} (h : (cellsB W D S zs && keyB key) = false) : placesR W D S zs key = ([], false) := by unfold placesR; rw [h]; rfl
theorem countsR_no {W D S key : Int} {zs : List Int} (h : (cellsB W D S zs && keyB key) = false) : countsR W D S zs key = ([], false) := by unfold countsR; rw [h]; rfl
/-- the least of the first ones -/
def minL (f : Nat → Int) : Nat → Int
  | 0 => f 0
  | k + 1 => min (minL f k) (f (k + 1))
theorem minL_congr {f g : Nat → Int} : ∀ (n : Nat), (∀ i, i ≤ n → f i = g i) → minL f n = minL g n
  | 0, h => h 0 (Nat.le_refl _)
  | n + 1, h => by
    show min (minL f n) (f (n + 1)) = min (minL g n) (g (n + 1))
    rw [minL_congr n (fun i hi => h i (by omega)), h (n + 1) (Nat.le_refl _)]
/-- the row of a copy whose first k numbers have been replaced -/
def mixF (zs ys : List Int) (k i : Nat) : Value := if i < k then .int .i64 (ys[i]?.getD 0) else .int .i64 (zs[i]?.getD 0)
theorem mixF_step (zs ys : List Int) (k : Nat) {w : World} {b n c : Nat} {t : TypeId} {f : Nat → Value} (h : w.rowIs b t c (fun i => if i < n then mixF zs ys k i else f i)) : (w.setCell ⟨b, k, none⟩ (.int .i64 (ys[k]?.getD 0))).rowIs b t c (fun i => if i < n then mixF zs ys (k + 1) i else (if i = k then .int .i64 (ys[k]?.getD 0) else f i)) := by
  refine (h.set k _).congr fun i hi => ?_
  unfold mixF
  by_cases e : i = k
  · subst e; simp
  · have e2 : (i < k + 1) = (i < k) := by apply propext; omega
    simp [e, e2]
set_option maxHeartbeats 2000000 in
theorem c_impl_countsAt (m d : Nat) (S : Int) (a : Option Addr) (n cap : Nat) (zs : List Int) (key : Int) (w : World) (ok : CellsOk m d S zs) (hk : keyB key = true) (h : Reads w a n (ints zs)) :
    Calls Try.prog 136 #[.agg #[.int .i64 m, .int .i64 d, .int .i64 S, .slice a n cap], .int .i64 key] w (RetSB 2 d (ints (atZ m d S zs key)) true w) := by
  have hd1 := ok.d1
  have hd6 := ok.d6
  have OK := Lib.hid ok
  have HV := Lib.hid (placesR_y ok hk)
  have hn := h.int.1
  have hn4 := ok.le
  subst hn
  have H := Lib.hid h
  have BX := Lib.hid (Box.alloc w #[.int .i64 m, .int .i64 d, .int .i64 S, .slice a zs.length cap] 57)
  clear ok hk h
  go_enter Try.func136, Try.ntmps136
  go_wp2_with fail
  refine (c_impl_PlacesOf m d S _ _ cap zs key _ HV.out (by unfold maxLen; omega) (H.out.on (by (repeat (first | assumption | exact Ext.refl _ | (with_reducible refine Ext.stepS ?_ (by first | exact Nat.le_refl _ | (simp; done) | (simp; omega)) _) | (with_reducible refine Ext.stepN ?_ _) | (with_reducible refine Ext.stepD ?_) | (with_reducible refine Ext.stepA ?_ _)))))).mono ?_; rintro e wa ⟨pa, pc, rfl, o', x'⟩
  rw [placesZ_length] at o'
  rw [placesZ_length]
  obtain ⟨g, f, rfl, hg, hgh, hpl, hpc, hrow⟩ := o'.rowT (by omega)
  have X1 := Lib.hid (show Ext w wa from (Ext.alloc _ _).trans x')
  have BX1 := Lib.hid (BX.out.on x')
  have HG := Lib.hid (show w.heap.size + 1 ≤ g from Nat.le_trans (by first | omega | (simp; done) | (simp; omega)) hg)
  have HR := Lib.hid hrow
  have HPC := Lib.hid hpc
  have hg' : w.heap.size < g := by have := HG.out; omega
  clear o' x' hg hgh hpl hrow
  go_wp2
  go_loopw [18] (fun i wr => ∃ k : Nat, k ≤ d ∧ i = .int .i64 k ∧ (∃ f' : Nat → Value, wr.rowIs g 2 pc (fun i => if i < d then mixF (placesZ m d S key) (atZ m d S zs key) k i else f' i)) ∧ Touch g (g + 1) wa wr) (fun i _ => d - (intOf i).toNat)
  case atStart =>
    refine ⟨0, Nat.zero_le _, rfl, ⟨f, HR.out.congr fun i hi => ?_⟩, Touch.refl _ _ _⟩
    unfold rowT mixF
    rw [placesZ_length]
    simp
  case round =>
    obtain ⟨k, hk, rfl, ⟨f', hrow⟩, ht⟩ := hrel
    have HRR := Lib.hid hrow
    have HT := Lib.hid ht
    clear hrow ht
    by_cases hlt : k < d
    · obtain ⟨p, hp⟩ : ∃ p, placeN m S key k = p := ⟨_, rfl⟩
      have hpl : p < zs.length := by rw [← hp, OK.out.len]; exact placeN_lt S key (by have := OK.out.m2; omega) hlt
      obtain ⟨x, hx⟩ : ∃ x, zs[p]?.getD 0 = x := ⟨_, rfl⟩
      have HA := Lib.hid (show (atZ m d S zs key)[k]?.getD 0 = x by rw [atZ_get m d S key zs k hlt, hp, hx])
      have hcur := HRR.out.cell (i := k) (by have := HPC.out; omega)
      have hcur2 : (if k < d then mixF (placesZ m d S key) (atZ m d S zs key) k k else f' k) = .int .i64 (p : Int) := by
        rw [if_pos hlt]; unfold mixF; rw [if_neg (by omega), placesZ_get m d S key k hlt, hp]
      rw [hcur2] at hcur
      have hfro := HRR.out.frozen k
      obtain ⟨b0, b1, b2, b3⟩ := (BX1.out.beside HT.out (by have := HG.out; omega)).four
      obtain ⟨ab, ao, rfl, hac⟩ : ∃ b off, a = some ⟨b, off, none⟩ ∧ wr.cell? ⟨b, off + p, none⟩ = some (.int .i64 x) := by
        obtain ⟨_, hq⟩ := H.out.int
        rcases hq with h0 | ⟨b', off', rfl, hq⟩
        · omega
        · refine ⟨b', off', rfl, ?_⟩
          have h1 := hq p hpl
          have hE : Ext w wr := Touch.ext X1.out HT.out (by have := HG.out; omega)
          rw [hE.cell b' _ (World.block_lt_of_cell? w ⟨b', off' + p, none⟩ h1), h1, hx]
      have hpl' : (p : Int) < (zs.length : Int) := by omega
      have hp0 : (0 : Int) ≤ (p : Int) := by omega
      have HS := Lib.hid (mixF_step (placesZ m d S key) (atZ m d S zs key) k HRR.out)
      rw [HA.out] at HS
      clear hp hx hcur2 hg'
      go_wp2
      go_roundw
      case rel => exact ⟨k + 1, by omega, by go_num, ⟨_, HS.out⟩, HT.out.one k (.int .i64 x)⟩
      case measure => simp [intOf]; omega
    · obtain rfl : k = d := by omega
      go_wp2
      go_ret2
      refine ⟨_, _, rfl, ?_, Touch.ext X1.out HT.out (by have := HG.out; omega)⟩
      refine ⟨by rw [ints_length, atZ_length], HPC.out, .inr ⟨g, _, rfl, by have := HG.out; omega, HRR.out.lt, HRR.out, fun i hi => ?_⟩⟩
      show _ = some (if i < k then mixF (placesZ m k S key) (atZ m k S zs key) k i else f' i)
      rw [if_pos hi]; unfold mixF; rw [if_pos hi]
      exact ints_get _ i (by rw [atZ_length]; exact hi)
end Go.Proofs.Ytfbapbgiegploaa
