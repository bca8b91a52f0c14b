/- Slices of bools: what the laws' helpers answer. -/
import Derived.Test.YtgejfeedcphfkaaDoorSca
import Derived.Test.YtgejfeedcphfkaaDoorIls
import Derived.Test.YtgejfeedcphfkaaDoorLcl
import Derived.Test.YtgejfeedcphfkaaDoorKin
namespace Go.Proofs.YtgejfeedcphfkaaDoor
open Go.ChangeShapes Go.WideShapes Go.ChangeAt Go.RowKit
set_option linter.unusedVariables false
theorem info_bool : (Tryd.prog.info? 4).map (fun i => (i.zero, i.size, i.bytes)) = some (some (.bool false), 1, 1) := by kernel_rfl
def bools (bs : List Bool) : List Value := bs.map Value.bool
theorem bools_length (bs : List Bool) : (bools bs).length = bs.length := List.length_map _
theorem bools_get (bs : List Bool) (i : Nat) (h : i < bs.length) : (bools bs)[i]? = some (.bool (bs[i]?.getD false)) := by simp [bools, h]
theorem Reads.bool {w : World} {a : Option Addr} {n : Nat} {bs : List Bool} (h : Reads w a n (bools bs)) : bs.length = n ∧ (n = 0 ∨ ∃ b off, a = some ⟨b, off, none⟩ ∧ ∀ i, i < n → w.cell? ⟨b, off + i, none⟩ = some (.bool (bs[i]?.getD false))) := by
  have hl : bs.length = n := by rw [← h.1, bools_length]
  refine ⟨hl, ?_⟩
  rcases h.2 with h0 | ⟨b, off, rfl, hc⟩
  · exact .inl h0
  · exact .inr ⟨b, off, rfl, fun i hi => by rw [hc i hi, bools_get bs i (by omega)]⟩
/-- marks of bools -/
def bmark (s i : Nat) : Bool := ((s + i : Nat) : Int) % 3 == 0
def bmarks (s n : Nat) : List Bool := (List.range n).map (bmark s)
theorem bmarks_length (s n : Nat) : (bmarks s n).length = n := by simp [bmarks]
theorem bmarks_get (s n i : Nat) (h : i < n) : (bmarks s n)[i]?.getD false = bmark s i := by simp [bmarks, h]
def markFB (f : Nat → Value) (s k : Nat) (i : Nat) : Value := if i < k then .bool (bmark s i) else f i
theorem markFB_step (f : Nat → Value) (s k : Nat) {w : World} {b n : Nat} {t : TypeId} (h : w.rowIs b t n (markFB f s k)) : (w.setCell ⟨b, k, none⟩ (.bool (bmark s k))).rowIs b t n (markFB f s (k + 1)) := by
  refine (h.set k _).congr fun i hi => ?_
  unfold markFB
  by_cases e : i = k
  · subst e; rw [if_pos rfl, if_pos (by omega)]
  · rw [if_neg e]
    by_cases e2 : i < k
    · rw [if_pos e2, if_pos (by omega)]
    · rw [if_neg e2, if_neg (by omega)]
def RetMarkB (t : TypeId) (lo hi : Nat) (a : Option Addr) (n c k : Nat) (w : World) (e : Ending) (w' : World) : Prop := e = .returned (.int .i64 ((k + n : Nat) : Int)) ∧ Own t w' lo hi a n c (bools (bmarks k n)) ∧ Touch lo hi w w'
/-- a row whose first k cells are told -/
def fillFB (bs : List Bool) (k : Nat) (i : Nat) : Value := if i < k then .bool (bs[i]?.getD false) else .bool false
theorem fillFB_step (bs : List Bool) (k : Nat) {w : World} {b n : Nat} {t : TypeId} (h : w.rowIs b t n (fillFB bs k)) : (w.setCell ⟨b, k, none⟩ (.bool (bs[k]?.getD false))).rowIs b t n (fillFB bs (k + 1)) := by
  refine (h.set k _).congr fun i hi => ?_
  unfold fillFB
  by_cases e : i = k
  · subst e; rw [if_pos rfl, if_pos (by omega)]
  · rw [if_neg e]
    by_cases e2 : i < k
    · rw [if_pos e2, if_pos (by omega)]
    · rw [if_neg e2, if_neg (by omega)]
def RetKV (t : TypeId) (c : SV) (w : World) (e : Ending) (w' : World) : Prop := ∃ a k, e = .returned (.agg #[.int .i64 c.R, .int .i64 c.S, .slice a c.zs.length k]) ∧ Own t w' w.heap.size w'.heap.size a c.zs.length k (bools c.zs) ∧ Ext w w'
def RetKVB (t : TypeId) (c : SV) (b : Bool) (w : World) (e : Ending) (w' : World) : Prop := ∃ a k, e = .returned (.tuple #[.agg #[.int .i64 c.R, .int .i64 c.S, .slice a c.zs.length k], .bool b]) ∧ Own t w' w.heap.size w'.heap.size a c.zs.length k (bools c.zs) ∧ Ext w w'
/-- a slice of bools that came in -/
def IsBRow (w : World) (a : Option Addr) (len cap : Nat) (zs : List Bool) : Prop :=
  (a = none ∧ len = 0 ∧ cap = 0 ∧ zs = []) ∨
  ∃ x : Addr, a = some x ∧ len ≤ cap ∧ cap ≤ maxLen ∧ zs.length = cap ∧ ∀ i, i < zs.length → w.cell? (x.add i) = some (.bool (zs.getD i false))
theorem IsBRow.rd {w : World} {a : Option Addr} {len cap : Nat} {zs : List Bool} (h : IsBRow w a len cap zs) : Reads w a len (bools (zs.take len)) ∧ len ≤ maxLen := by
  rcases h with ⟨rfl, rfl, rfl, rfl⟩ | ⟨x, rfl, hl, hm, hz, hc⟩
  · exact ⟨⟨rfl, .inl rfl⟩, by unfold maxLen; omega⟩
  · refine ⟨⟨by rw [bools_length, List.length_take]; omega, ?_⟩, by unfold maxLen at *; omega⟩
    by_cases h0 : len = 0
    · exact .inl h0
    · obtain ⟨b, off, spot⟩ := x
      have hs := hc 0 (by omega)
      have hspot : spot = none := by simpa [Addr.add] using World.cell?_spot hs
      subst hspot
      refine .inr ⟨b, off, rfl, fun i hi => ?_⟩
      have h1 := hc i (by omega)
      have e : (⟨b, off, none⟩ : Addr).add i = ⟨b, off + i, none⟩ := by unfold Addr.add; split <;> simp_all
      rw [e] at h1
      rw [h1, bools_get _ i (by rw [List.length_take]; omega), List.getElem?_take, if_pos hi]
      simp
/-- a row that begins with bools -/
def rowB (zs : List Bool) (f : Nat → Value) (i : Nat) : Value := if i < zs.length then .bool (zs[i]?.getD false) else f i
theorem rowB_at {zs : List Bool} {f : Nat → Value} {i : Nat} (h : i < zs.length) : rowB zs f i = .bool (zs[i]?.getD false) := if_pos h
theorem getDB_set (zs : List Bool) (k j : Nat) (v : Bool) (hk : k < zs.length) : (zs.set k v)[j]?.getD false = if j = k then v else zs[j]?.getD false := by
  rw [List.getElem?_set]
  by_cases e : k = j
  · subst e; simp [hk]
  · rw [if_neg e, if_neg (fun h => e h.symm)]
theorem rowB_set {zs : List Bool} {f : Nat → Value} {w : World} {b n k : Nat} {t : TypeId} (h : w.rowIs b t n (rowB zs f)) (hk : k < zs.length) (v : Bool) : (w.setCell ⟨b, k, none⟩ (.bool v)).rowIs b t n (rowB (zs.set k v) f) := by
  refine (h.set k _).congr fun i hi => ?_
  unfold rowB
  rw [List.length_set, getDB_set zs k i v hk]
  by_cases e : i = k
  · subst e; rw [if_pos rfl, if_pos hk, if_pos rfl]
  · rw [if_neg e, if_neg e]
theorem own_rowB {w' : World} {t : TypeId} {g lo c : Nat} {zs : List Bool} {f : Nat → Value} (hc : zs.length ≤ c) (hg : lo ≤ g) (h : w'.rowIs g t c (rowB zs f)) : Own t w' lo w'.heap.size (some ⟨g, 0, none⟩) zs.length c (bools zs) :=
  ⟨bools_length zs, hc, .inr ⟨g, _, rfl, hg, h.lt, h, fun i hi => by rw [rowB_at hi]; exact bools_get zs i hi⟩⟩
theorem Own.rowB {w : World} {t : TypeId} {lo hi n c : Nat} {a : Option Addr} {zs : List Bool} (h : Own t w lo hi a n c (bools zs)) (hn : 0 < n) : ∃ g f, a = some ⟨g, 0, none⟩ ∧ lo ≤ g ∧ g < hi ∧ zs.length = n ∧ n ≤ c ∧ w.rowIs g t c (rowB zs f) := by
  obtain ⟨hl, hc, h0⟩ := h
  rw [bools_length] at hl
  rcases h0 with ⟨_, h0⟩ | ⟨g, f, rfl, h1, h2, hr, hf⟩
  · omega
  · refine ⟨g, f, rfl, h1, h2, hl, hc, hr.congr fun i hi => ?_⟩
    unfold Go.Proofs.YtgejfeedcphfkaaDoor.rowB
    by_cases e : i < zs.length
    · rw [if_pos e]
      have h3 := hf i (by omega)
      rw [bools_get zs i e] at h3
      simpa using h3.symm
    · rw [if_neg e]
theorem c_eqB_E (a a' : Option Addr) (len cap cap' : Nat) (zs : List Bool) (w : World) (hm : len ≤ 1048576) (h : Reads w a len (bools zs)) (h' : Reads w a' len (bools zs)) :
    Calls Tryd.prog 54 #[.slice a len cap, .slice a' len cap'] w fun e w' => e = .returned (.bool true) ∧ Ext w w' := by
  obtain ⟨hz, hr⟩ := h.bool
  obtain ⟨_, hr'⟩ := h'.bool
  have HR := Lib.hid hr
  have HR' := Lib.hid hr'
  clear hr hr' hz h h'
  go_enter Tryd.func54, Tryd.ntmps54
  go_wp2
  go_loopw [5] (fun i wr => ∃ k : Nat, k ≤ len ∧ i = .int .i64 k ∧ ∃ q, wr = w.drewN q) (fun i _ => len - (intOf i).toNat)
  case atStart => exact ⟨0, Nat.zero_le _, rfl, 0, rfl⟩
  case round =>
    obtain ⟨k, hk, rfl, q, rfl⟩ := hrel
    by_cases hlt : k < len
    · rcases HR.out with h0 | ⟨b, off, rfl, hc⟩
      · omega
      rcases HR'.out with h0 | ⟨b', off', rfl, hc'⟩
      · omega
      have hcell := hc k hlt
      have hcell' := hc' k hlt
      clear hc hc'
      go_wp2
      go_region
      all_goals
        go_wp2
        go_roundw
        case rel => exact ⟨k + 1, by omega, by go_num, _, rfl⟩
        case measure => simp [intOf]; omega
    · obtain rfl : k = len := by omega
      go_wp2
      go_ret
      exact ⟨rfl, Ext.drewN _ _⟩
/-- a copy -/
theorem c_toB (a : Option Addr) (len cap : Nat) (zs : List Bool) (w : World) (hl : len ≤ 1048576) (h : Reads w a len (bools zs)) :
    Calls Tryd.prog 51 #[.slice a len cap] w (RetS 4 len (bools zs) w) := by
  obtain ⟨hz, hr⟩ := h.bool
  have hmk := run_make_row' (P := Tryd.prog) 32 4 (.bool false) 1 Tryd.underlying32 info_bool rfl .i64 .i64 len (by omega) (by omega)
  have HR := Lib.hid hr
  have HZ := Lib.hid hz
  have HG := Lib.hid h
  clear hr hz h
  go_enter Tryd.func51, Tryd.ntmps51
  go_wp2
  go_loopw [4] (fun i wr => ∃ k : Nat, k ≤ len ∧ i = .int .i64 k ∧ wr.rowIs w.heap.size 4 len (fillFB zs k) ∧ Ext w wr) (fun i _ => len - (intOf i).toNat)
  case atStart => exact ⟨0, Nat.zero_le _, rfl, (World.rowIs_made _ _ _ _).congr fun i _ => rfl, Ext.alloc _ _⟩
  case round =>
    obtain ⟨k, hk, rfl, hrow, hext⟩ := hrel
    by_cases hlt : k < len
    · rcases HR.out with h0 | ⟨b, off, rfl, hc⟩
      · omega
      have hcell : wr.cell? ⟨b, off + k, none⟩ = some (.bool (zs[k]?.getD false)) := by
        have h1 := hc k hlt
        rw [hext.cell b _ (World.block_lt_of_cell? w ⟨b, off + k, none⟩ h1)]; exact h1
      have hcur := hrow.cell hlt
      have hfro := hrow.frozen k
      have HS := Lib.hid (fillFB_step zs k hrow)
      have HE := Lib.hid (show Ext w (wr.setCell ⟨w.heap.size, k, none⟩ (.bool (zs[k]?.getD false))) from Below.setCell hext (Nat.le_refl _) _)
      clear hc hrow hext
      go_wp2
      go_roundw
      case rel => exact ⟨k + 1, by omega, by go_num, HS.out, HE.out⟩
      case measure => simp [intOf]; omega
    · obtain rfl : k = len := by omega
      have HS := Lib.hid hrow
      have HE := Lib.hid hext
      clear hrow hext
      go_wp2
      go_ret
      exact ⟨_, _, rfl, own_made (by rw [bools_length]; exact HZ.out) (Nat.le_refl _) HS.out (fun i hi => by rw [bools_get zs i (by rw [HZ.out]; exact hi)]; unfold fillFB; rw [if_pos hi]), HE.out⟩
theorem c_szB_ok (a : Option Addr) (n cap l : Nat) (w : World) (h : n ≤ l) (hl : l ≤ 1048576) : Calls Tryd.prog 48 #[.slice a n cap, .int .i64 l] w fun e w' => e = .returned (.int .i64 ((l - n : Nat) : Int)) ∧ w' = w := by
  have e : ((l - n : Nat) : Int) = (l : Int) - (n : Int) := by omega
  have h' : (n : Int) ≤ (l : Int) := by omega
  have hl' : (l : Int) ≤ 1048576 := by omega
  have E := Lib.hid e
  clear e
  go_enter Tryd.func48, Tryd.ntmps48
  go_wp2
  go_ret
  exact ⟨by rw [E.out]; rfl, rfl⟩
theorem c_szB_no (a : Option Addr) (n cap l : Nat) (w : World) (h : l < n) (hl : l ≤ 1048576) (hn : n ≤ maxLen) : Calls Tryd.prog 48 #[.slice a n cap, .int .i64 l] w fun e w' => e = .returned (.int .i64 (-1)) ∧ w' = w := by
  unfold maxLen at hn
  have h' : (l : Int) < (n : Int) := by omega
  have hl' : (l : Int) ≤ 1048576 := by omega
  go_enter Tryd.func48, Tryd.ntmps48
  go_wp2
  go_ret
  exact ⟨rfl, rfl⟩
end Go.Proofs.YtgejfeedcphfkaaDoor
