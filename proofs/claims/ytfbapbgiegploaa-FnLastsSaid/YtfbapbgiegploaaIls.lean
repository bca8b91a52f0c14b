/- Slices of integers: what the laws' helpers answer (copy, equality, marks). -/
import Derived.Test.YtfbapbgiegploaaRows
import Derived.Test.YtfbapbgiegploaaOwn
import Derived.ProofKit
import Derived.OpenShut
import Derived.Handy
import Derived.OwnWalk
namespace Go.Proofs.Ytfbapbgiegploaa
open Go.ChangeShapes Go.WideShapes Go.ChangeAt Go.RowKit
set_option linter.unusedVariables false

theorem info_i64 : (Try.prog.info? 2).map (fun i => (i.zero, i.size, i.bytes)) = some (some (.int .i64 0), 1, 8) := by kernel_rfl
/-- a slice of integers that came in -/
def IsRow (k : IntKind) (w : World) (a : Option Addr) (len cap : Nat) (zs : List Int) : Prop :=
  (a = none ∧ len = 0 ∧ cap = 0 ∧ zs = []) ∨
  ∃ x : Addr, a = some x ∧ len ≤ cap ∧ cap ≤ maxLen ∧ zs.length = cap ∧ (∀ i, i < zs.length → w.cell? (x.add i) = some (.int k (zs.getD i 0))) ∧ ∀ n ∈ zs, (Lit.int k n).wf = true
theorem IsRow.rd {w : World} {a : Option Addr} {len cap : Nat} {zs : List Int} (h : IsRow .i64 w a len cap zs) : Reads w a len (ints (zs.take len)) ∧ len ≤ maxLen := by
  rcases h with ⟨rfl, rfl, rfl, rfl⟩ | ⟨x, rfl, hl, hm, hz, hc, _⟩
  · exact ⟨⟨rfl, .inl rfl⟩, by unfold maxLen; omega⟩
  · refine ⟨⟨by rw [ints_length, List.length_take]; omega, ?_⟩, by unfold maxLen at *; omega⟩
    by_cases h0 : len = 0
    · exact .inl h0
    · obtain ⟨b, off, spot⟩ := x
      have hs := hc 0 (by omega)
      have hspot : spot = none := by simpa [Addr.add] using World.cell?_spot hs
      subst hspot
      refine .inr ⟨b, off, rfl, fun i hi => ?_⟩
      have h1 := hc i (by omega)
      have e : (⟨b, off, none⟩ : Addr).add i = ⟨b, off + i, none⟩ := by unfold Addr.add; split <;> simp_all
      rw [e] at h1
      rw [h1, ints_get _ i (by rw [List.length_take]; omega), List.getElem?_take, if_pos hi]
      simp
/-- a row whose first k cells are told -/
def fillF (zs : List Int) (k : Nat) (i : Nat) : Value := if i < k then .int .i64 (zs[i]?.getD 0) else .int .i64 0
theorem fillF_step (zs : List Int) (k : Nat) {w : World} {b n : Nat} {t : TypeId} (h : w.rowIs b t n (fillF zs k)) : (w.setCell ⟨b, k, none⟩ (.int .i64 (zs[k]?.getD 0))).rowIs b t n (fillF zs (k + 1)) := by
  refine (h.set k _).congr fun i hi => ?_
  unfold fillF
  by_cases e : i = k
  · subst e; rw [if_pos rfl, if_pos (by omega)]
  · rw [if_neg e]
    by_cases e2 : i < k
    · rw [if_pos e2, if_pos (by omega)]
    · rw [if_neg e2, if_neg (by omega)]
/-- a row of vs whose first k cells are marked -/
def markF (f : Nat → Value) (s k : Nat) (i : Nat) : Value := if i < k then .int .i64 ((s + i : Nat) : Int) else f i
theorem markF_step (f : Nat → Value) (s k : Nat) {w : World} {b n : Nat} {t : TypeId} (h : w.rowIs b t n (markF f s k)) : (w.setCell ⟨b, k, none⟩ (.int .i64 ((s + k : Nat) : Int))).rowIs b t n (markF f s (k + 1)) := by
  refine (h.set k _).congr fun i hi => ?_
  unfold markF
  by_cases e : i = k
  · subst e; rw [if_pos rfl, if_pos (by omega)]
  · rw [if_neg e]
    by_cases e2 : i < k
    · rw [if_pos e2, if_pos (by omega)]
    · rw [if_neg e2, if_neg (by omega)]
theorem own_made {w' : World} {t : TypeId} {g n lo : Nat} {vs : List Value} {f : Nat → Value} (hl : vs.length = n) (hg : lo ≤ g) (h : w'.rowIs g t n f) (hf : ∀ i, i < n → vs[i]? = some (f i)) : Own t w' lo w'.heap.size (some ⟨g, 0, none⟩) n n vs :=
  ⟨hl, Nat.le_refl _, .inr ⟨g, f, rfl, hg, h.lt, h, hf⟩⟩
/-- a copy -/
theorem c_toI (a : Option Addr) (len cap : Nat) (zs : List Int) (w : World) (hl : len ≤ 1048576) (h : Reads w a len (ints zs)) :
    Calls Try.prog 178 #[.slice a len cap] w (RetS 2 len (ints zs) w) := by
  obtain ⟨hz, hr⟩ := h.int
  have hmk := run_make_row' (P := Try.prog) 25 2 (.int .i64 0) 8 Try.underlying25 info_i64 rfl .i64 .i64 len (by omega) (by omega)
  have HR := Lib.hid hr
  have HZ := Lib.hid hz
  have HG := Lib.hid h
  clear hr hz h
  go_enter Try.func178, Try.ntmps178
  go_wp2
  go_loopw [4] (fun i wr => ∃ k : Nat, k ≤ len ∧ i = .int .i64 k ∧ wr.rowIs w.heap.size 2 len (fillF zs k) ∧ Ext w wr) (fun i _ => len - (intOf i).toNat)
  case atStart => exact ⟨0, Nat.zero_le _, rfl, (World.rowIs_made _ _ _ _).congr fun i _ => rfl, Ext.alloc _ _⟩
  case round =>
    obtain ⟨k, hk, rfl, hrow, hext⟩ := hrel
    by_cases hlt : k < len
    · rcases HR.out with h0 | ⟨b, off, rfl, hc⟩
      · omega
      have hcell : wr.cell? ⟨b, off + k, none⟩ = some (.int .i64 (zs[k]?.getD 0)) := by
        have h1 := hc k hlt
        rw [hext.cell b _ (World.block_lt_of_cell? w ⟨b, off + k, none⟩ h1)]; exact h1
      have hcur := hrow.cell hlt
      have hfro := hrow.frozen k
      have HS := Lib.hid (fillF_step zs k hrow)
      have HE := Lib.hid (show Ext w (wr.setCell ⟨w.heap.size, k, none⟩ (.int .i64 (zs[k]?.getD 0))) from Below.setCell hext (Nat.le_refl _) _)
      clear hc hrow hext
      go_wp2
      go_roundw
      case rel => exact ⟨k + 1, by omega, by go_num, HS.out, HE.out⟩
      case measure => simp [intOf]; omega
    · obtain rfl : k = len := by omega
      have HS := Lib.hid hrow
      have HE := Lib.hid hext
      clear hrow hext
      go_wp2
      go_ret
      exact ⟨_, _, rfl, own_made (by rw [ints_length]; exact HZ.out) (Nat.le_refl _) HS.out (fun i hi => by rw [ints_get zs i (by rw [HZ.out]; exact hi)]; unfold fillF; rw [if_pos hi]), HE.out⟩
/-- equality, at equal lists -/
theorem c_eqI (a a' : Option Addr) (len cap cap' : Nat) (zs : List Int) (w : World) (hm : len ≤ maxLen) (h : Reads w a len (ints zs)) (h' : Reads w a' len (ints zs)) :
    Calls Try.prog 179 #[.slice a len cap, .slice a' len cap'] w fun e w' => e = .returned (.bool true) ∧ ∃ q, w' = w.drewN q := by
  unfold maxLen at hm
  obtain ⟨hz, hr⟩ := h.int
  obtain ⟨_, hr'⟩ := h'.int
  have HR := Lib.hid hr
  have HR' := Lib.hid hr'
  clear hr hr' hz h h'
  go_enter Try.func179, Try.ntmps179
  go_wp2
  go_loopw [5] (fun i wr => ∃ k : Nat, k ≤ len ∧ i = .int .i64 k ∧ ∃ q, wr = w.drewN q) (fun i _ => len - (intOf i).toNat)
  case atStart => exact ⟨0, Nat.zero_le _, rfl, 0, rfl⟩
  case round =>
    obtain ⟨k, hk, rfl, q, rfl⟩ := hrel
    by_cases hlt : k < len
    · rcases HR.out with h0 | ⟨b, off, rfl, hc⟩
      · omega
      rcases HR'.out with h0 | ⟨b', off', rfl, hc'⟩
      · omega
      have hcell := hc k hlt
      have hcell' := hc' k hlt
      clear hc hc'
      go_wp2
      go_region
      all_goals
        go_wp2
        go_roundw
        case rel => exact ⟨k + 1, by omega, by go_num, _, rfl⟩
        case measure => simp [intOf]; omega
    · obtain rfl : k = len := by omega
      go_wp2
      go_ret
      exact ⟨rfl, _, rfl⟩
/-- marks are written into a slice of the call's own -/
theorem c_markI (lo hi : Nat) (a : Option Addr) (n cap s : Nat) (vs : List Value) (w : World) (hn : n ≤ 1048576) (hs : s ≤ 1073741824) (h : Own 2 w lo hi a n cap vs) :
    Calls Try.prog 195 #[.slice a n cap, .int .i64 s] w (RetMark 2 lo hi a n cap s w) := by
  obtain ⟨hl, hc, hr⟩ := h
  rcases hr with ⟨rfl, rfl⟩ | ⟨g, f, rfl, g1, g2, hrow, hf⟩
  · obtain rfl : n = 0 := by omega
    go_enter Try.func195, Try.ntmps195
    go_wp2
    go_loop [1, 5] (fun x y => x = .int .i64 s ∧ y = .int .i64 0) (fun _ _ => 0)
    case atStart => exact ⟨rfl, rfl⟩
    case round =>
      obtain ⟨rfl, rfl⟩ := hrel
      go_wp2
      go_ret
      exact ⟨rfl, Own.nil _ _ _ _, Touch.refl _ _ _⟩
  · have H0 := Lib.hid hrow
    clear hrow hf hl
    go_enter Try.func195, Try.ntmps195
    go_wp2
    go_loopw [1, 5] (fun x y wr => ∃ k : Nat, k ≤ n ∧ x = .int .i64 ((s + k : Nat) : Int) ∧ y = .int .i64 k ∧ wr.rowIs g 2 cap (markF f s k) ∧ Touch lo hi w wr) (fun _ i _ => n - (intOf i).toNat)
    case atStart => exact ⟨0, Nat.zero_le _, rfl, rfl, H0.out.congr fun i _ => rfl, Touch.refl _ _ _⟩
    case round =>
      obtain ⟨k, hk, rfl, rfl, hrow, ht⟩ := hrel
      by_cases hlt : k < n
      · have hcur := hrow.cell (show k < cap by omega)
        have hfro := hrow.frozen k
        have HS := Lib.hid (markF_step f s k hrow)
        have HT := Lib.hid (ht.trans (Touch.setCell wr (a := ⟨g, k, none⟩) g1 g2 (.int .i64 ((s + k : Nat) : Int))))
        clear hrow ht
        go_wp2
        go_roundw
        case rel => exact ⟨k + 1, by omega, by go_num, by go_num, HS.out, HT.out⟩
        case measure => simp [intOf]; omega
      · obtain rfl : k = n := by omega
        have HS := Lib.hid hrow
        have HT := Lib.hid ht
        clear hrow ht
        go_wp2
        go_ret
        exact ⟨rfl, ⟨by rw [ints_length, marks_length], hc, .inr ⟨g, _, rfl, g1, g2, HS.out, fun i hi => by rw [ints_get _ i (by rw [marks_length]; exact hi), marks_get s k i hi]; unfold markF; rw [if_pos hi]⟩⟩, HT.out⟩
/-- marks are there -/
theorem c_heldI (a : Option Addr) (n cap s : Nat) (w : World) (hn : n ≤ 1048576) (hs : s ≤ 1073741824) (h : Reads w a n (ints (marks s n))) :
    Calls Try.prog 196 #[.slice a n cap, .int .i64 s] w fun e w' => e = .returned (.int .i64 ((s + n : Nat) : Int)) ∧ w = w' := by
  obtain ⟨_, hr⟩ := h.int
  have HR := Lib.hid hr
  clear hr h
  go_enter Try.func196, Try.ntmps196
  go_wp2
  go_loopw [1, 5] (fun x y wr => ∃ k : Nat, k ≤ n ∧ x = .int .i64 ((s + k : Nat) : Int) ∧ y = .int .i64 k ∧ wr = w) (fun _ i _ => n - (intOf i).toNat)
  case atStart => exact ⟨0, Nat.zero_le _, rfl, rfl, rfl⟩
  case round =>
    obtain ⟨k, hk, rfl, rfl, rfl⟩ := hrel
    by_cases hlt : k < n
    · rcases HR.out with h0 | ⟨b, off, rfl, hc⟩
      · omega
      have hcell := hc k hlt
      rw [marks_get s n k hlt] at hcell
      clear hc
      go_wp2
      go_roundw
      case rel => exact ⟨k + 1, by omega, by go_num, by go_num, by first | rfl | trivial⟩
      case measure => simp [intOf]; omega
    · obtain rfl : k = n := by omega
      go_wp2
      go_ret
      exact ⟨rfl, rfl⟩
theorem c_eqI_E (a a' : Option Addr) (len cap cap' : Nat) (zs : List Int) (w : World) (hm : len ≤ 1048576) (h : Reads w a len (ints zs)) (h' : Reads w a' len (ints zs)) :
    Calls Try.prog 179 #[.slice a len cap, .slice a' len cap'] w fun e w' => e = .returned (.bool true) ∧ Ext w w' :=
  (c_eqI a a' len cap cap' zs w (by unfold maxLen; omega) h h').mono (by rintro e w' ⟨rfl, q, rfl⟩; exact ⟨rfl, Ext.drewN _ _⟩)
theorem c_markI1 (lo hi : Nat) (a : Option Addr) (n cap : Nat) (vs : List Value) (w : World) (hn : n ≤ 1048576) (h : Own 2 w lo hi a n cap vs) :
    Calls Try.prog 195 #[.slice a n cap, .int .i64 1] w (RetMark 2 lo hi a n cap 1 w) := c_markI lo hi a n cap 1 vs w hn (by decide) h
theorem c_heldI1 (a : Option Addr) (n cap : Nat) (w : World) (hn : n ≤ 1048576) (h : Reads w a n (ints (marks 1 n))) :
    Calls Try.prog 196 #[.slice a n cap, .int .i64 1] w fun e w' => e = .returned (.int .i64 ((1 + n : Nat) : Int)) ∧ Ext w w' :=
  (c_heldI a n cap 1 w hn (by decide) h).mono (by rintro e w' ⟨rfl, rfl⟩; exact ⟨rfl, Ext.refl _⟩)
end Go.Proofs.Ytfbapbgiegploaa
