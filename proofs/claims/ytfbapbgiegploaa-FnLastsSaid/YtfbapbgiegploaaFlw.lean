/- Slices of 32-bit floats among slices of the call's own: what the laws' helpers answer (copy, equality, marks). -/
import Derived.Test.YtfbapbgiegploaaCon
import Derived.Test.YtfbapbgiegploaaMul
import Derived.Deep.Slices
import Derived.Deep.RegionWith
import Derived.BigRegion
import Derived.Deep.DeepCutAuto
namespace Go.Proofs.Ytfbapbgiegploaa
open Go.ChangeShapes Go.WideShapes Go.ChangeAt Go.RowKit Go.Proofs.Ytfbapbgiegploaa.Flo
set_option linter.unusedVariables false
attribute [local go_sem] run_fl_add run_fl_sub run_fl_mul run_fl_quo run_conv run_store_float run_store_complex
/-- floats, by their bits -/
def flos (zs : List Nat) : List Value := zs.map (Value.float .f32)
theorem flos_length (zs : List Nat) : (flos zs).length = zs.length := List.length_map _
theorem flos_get (zs : List Nat) (i : Nat) (h : i < zs.length) : (flos zs)[i]? = some (.float .f32 (zs[i]?.getD 0)) := by simp [flos, h]
theorem Reads.flo {w : World} {a : Option Addr} {n : Nat} {zs : List Nat} (h : Reads w a n (flos zs)) : zs.length = n ∧ (n = 0 ∨ ∃ b off, a = some ⟨b, off, none⟩ ∧ ∀ i, i < n → w.cell? ⟨b, off + i, none⟩ = some (.float .f32 (zs[i]?.getD 0))) := by
  have hl : zs.length = n := by rw [← h.1, flos_length]
  refine ⟨hl, ?_⟩
  rcases h.2 with h0 | ⟨b, off, rfl, hc⟩
  · exact .inl h0
  · exact .inr ⟨b, off, rfl, fun i hi => by rw [hc i hi, flos_get zs i (by omega)]⟩
/-- a mark, as a float -/
def fmark (s i : Nat) : Nat := floatOfInt .f32 ((s + i : Nat) : Int)
def fmarks (s n : Nat) : List Nat := (List.range n).map (fmark s)
theorem fmarks_length (s n : Nat) : (fmarks s n).length = n := by simp [fmarks]
theorem fmarks_get (s n i : Nat) (h : i < n) : (fmarks s n)[i]?.getD 0 = fmark s i := by simp [fmarks, h]
theorem floatOfInt_notNaN (k : FloatKind) (n : Int) : (k.decode (floatOfInt k n)).isNaN = false := by
  unfold floatOfInt FloatKind.decode
  first | exact write_notNaN _ _ rfl | exact nearest_notNaN _ _ _ _ | (split <;> first | exact write_notNaN _ _ rfl | exact nearest_notNaN _ _ _ _)
theorem mark_self (n : Int) : (FloatKind.f32.format.order (floatOfInt .f32 n) (floatOfInt .f32 n) == some .eq) = true := by rw [order_self, floatOfInt_notNaN]; rfl
def markFG (f : Nat → Value) (s k : Nat) (i : Nat) : Value := if i < k then .float .f32 (fmark s i) else f i
theorem markFG_step (f : Nat → Value) (s k : Nat) {w : World} {b n : Nat} {t : TypeId} (h : w.rowIs b t n (markFG f s k)) : (w.setCell ⟨b, k, none⟩ (.float .f32 (fmark s k))).rowIs b t n (markFG f s (k + 1)) := by
  refine (h.set k _).congr fun i hi => ?_
  unfold markFG
  by_cases e : i = k
  · subst e; rw [if_pos rfl, if_pos (by omega)]
  · rw [if_neg e]
    by_cases e2 : i < k
    · rw [if_pos e2, if_pos (by omega)]
    · rw [if_neg e2, if_neg (by omega)]
def fillFG (zs : List Nat) (k : Nat) (i : Nat) : Value := if i < k then .float .f32 (zs[i]?.getD 0) else .float .f32 0
theorem fillFG_step (zs : List Nat) (k : Nat) {w : World} {b n : Nat} {t : TypeId} (h : w.rowIs b t n (fillFG zs k)) : (w.setCell ⟨b, k, none⟩ (.float .f32 (zs[k]?.getD 0))).rowIs b t n (fillFG zs (k + 1)) := by
  refine (h.set k _).congr fun i hi => ?_
  unfold fillFG
  by_cases e : i = k
  · subst e; rw [if_pos rfl, if_pos (by omega)]
  · rw [if_neg e]
    by_cases e2 : i < k
    · rw [if_pos e2, if_pos (by omega)]
    · rw [if_neg e2, if_neg (by omega)]
/-- a slice of floats that came in: nil, or its first 'len' cells are the floats 'zs' -/
def IsFRow (k : FloatKind) (w : World) (a : Option Addr) (len cap : Nat) (zs : List Nat) : Prop :=
  (a = none ∧ len = 0 ∧ cap = 0 ∧ zs = []) ∨
  ∃ x, a = some x ∧ len ≤ cap ∧ cap ≤ maxLen ∧ zs.length = len ∧ (∀ i, i < len → w.cell? (x.add i) = some (.float k (zs[i]?.getD 0))) ∧ ∀ n ∈ zs, (Lit.float k n).wf = true
theorem trod_float1 {H : Type} {enc : TypeId × Value → H} {P : Program} {w : World} {base : Nat} {spare : Nat → Bool} {held : Bool} {n : Nat} {e : TypeId} {k : FloatKind} {V : Value} {y : DataW H × List MemPlace} (he : P.underlying e = some (.float k))
    (h : DataW.trod enc P w base spare held n e [V] = some y) : ∃ b, V = .float k b ∧ (Lit.float k b).wf = true := by
  cases n with
  | zero => simp [DataW.trod] at h
  | succ n =>
    simp only [DataW.trod, he] at h
    cases V <;> simp at h
    rename_i k' b
    obtain ⟨⟨rfl, hw⟩, _⟩ := h
    exact ⟨b, rfl, hw⟩
theorem open_floats {H : Type} {enc : TypeId × Value → H} {P : Program} {w : World} {base : Nat} {spare : Nat → Bool} {held : Bool} {t e : TypeId} {k : FloatKind} {fuel : Nat} {a : Option Addr} {len cap : Nat} {x : DataW H × List MemPlace}
    (ht : P.underlying t = some (.slice e)) (he : P.underlying e = some (.float k)) (hc : P.cellsOf e = 1) (h : DataW.trod enc P w base spare held fuel t [.slice a len cap] = some x) : ∃ zs, IsFRow k w a len cap zs := by
  rcases Deep.open_slice1 ht hc h with ⟨hcs, _⟩ | ⟨y, l, c, m, n, V, D, Pl, hcs, _, hl, hm, hmm, _, hx⟩
  · simp at hcs
    obtain ⟨rfl, rfl, rfl⟩ := hcs
    exact ⟨[], .inl ⟨rfl, rfl, rfl, rfl⟩⟩
  · simp at hcs
    obtain ⟨rfl, rfl, rfl⟩ := hcs
    have hlm : len ≤ m := by rw [hmm]; split <;> omega
    have each : ∀ i, i < len → ∃ b, V i = .float k b ∧ (Lit.float k b).wf = true := fun i hi => trod_float1 he (hx i (by omega)).2
    refine ⟨(List.range len).map (fun i => match V i with | .float _ b => b | _ => 0), .inr ⟨y, rfl, hl, hm, by simp, ?_, ?_⟩⟩
    · intro i hi
      obtain ⟨b, hb, _⟩ := each i hi
      rw [(hx i (by omega)).1, hb]
      simp [hi, hb]
    · intro z hz
      simp only [List.mem_map, List.mem_range] at hz
      obtain ⟨i, hi, rfl⟩ := hz
      obtain ⟨b, hb, hw⟩ := each i hi
      rw [hb]; exact hw
/-- .. out of a slice whose header is still to be told -/
theorem open_floats_at {H : Type} {enc : TypeId × Value → H} {P : Program} {w : World} {base : Nat} {spare : Nat → Bool} {held : Bool} {t e : TypeId} {k : FloatKind} {fuel : Nat} {v : Value} {x : DataW H × List MemPlace}
    (ht : P.underlying t = some (.slice e)) (he : P.underlying e = some (.float k)) (hc : P.cellsOf e = 1) (h : DataW.trod enc P w base spare held fuel t [v] = some x) : ∃ a len cap zs, v = .slice a len cap ∧ IsFRow k w a len cap zs := by
  rcases Deep.open_slice1 ht hc h with ⟨hcs, _⟩ | ⟨y, l, c, m, n, V, D, Pl, hcs, _, hl, hm, hmm, _, hx⟩
  · obtain rfl : v = .slice none 0 0 := by simpa using hcs
    exact ⟨none, 0, 0, [], rfl, .inl ⟨rfl, rfl, rfl, rfl⟩⟩
  · obtain rfl : v = .slice (some y) l c := by simpa using hcs
    obtain ⟨zs, hz⟩ := open_floats ht he hc h
    exact ⟨_, _, _, zs, rfl, hz⟩
theorem IsFRow.rd {w : World} {a : Option Addr} {len cap : Nat} {zs : List Nat} (h : IsFRow .f32 w a len cap zs) : Reads w a len (flos (zs.take len)) ∧ len ≤ maxLen := by
  rcases h with ⟨rfl, rfl, rfl, rfl⟩ | ⟨x, rfl, hl, hm, hz, hc, _⟩
  · exact ⟨⟨rfl, .inl rfl⟩, by unfold maxLen; omega⟩
  · refine ⟨⟨by rw [flos_length, List.length_take]; omega, ?_⟩, by unfold maxLen at *; omega⟩
    by_cases h0 : len = 0
    · exact .inl h0
    · obtain ⟨b, off, spot⟩ := x
      have hs := hc 0 (by omega)
      have hspot : spot = none := by simpa [Addr.add] using World.cell?_spot hs
      subst hspot
      refine .inr ⟨b, off, rfl, fun i hi => ?_⟩
      have h1 := hc i (by omega)
      have e : (⟨b, off, none⟩ : Addr).add i = ⟨b, off + i, none⟩ := by unfold Addr.add; split <;> simp_all
      rw [e] at h1
      rw [h1, flos_get _ i (by rw [List.length_take]; omega), List.getElem?_take, if_pos hi]
theorem IsFRow.bits {w : World} {a : Option Addr} {len cap : Nat} {zs : List Nat} (h : IsFRow .f32 w a len cap zs) : ∀ n ∈ zs.take len, n < 4294967296 := by
  rcases h with ⟨rfl, rfl, rfl, rfl⟩ | ⟨x, rfl, hl, hm, hz, hc, hw⟩
  · intro n hn; simp at hn
  · intro n hn
    exact lt_of_wf (hw n (List.mem_of_mem_take hn))
theorem info_f32 : (Try.prog.info? 28).map (fun i => (i.zero, i.size, i.bytes)) = some (some (.float .f32 0), 1, 4) := by kernel_rfl
/-- a copy -/
theorem c_toG (a : Option Addr) (len cap : Nat) (zs : List Nat) (w : World) (hl : len ≤ 1048576) (h : Reads w a len (flos zs)) :
    Calls Try.prog 248 #[.slice a len cap] w (RetS 28 len (flos zs) w) := by
  obtain ⟨hz, hr⟩ := h.flo
  have hmk := run_make_row' (P := Try.prog) 27 28 (.float .f32 0) 4 Try.underlying27 info_f32 rfl .i64 .i64 len (by omega) (by omega)
  have HR := Lib.hid hr
  have HZ := Lib.hid hz
  have HG := Lib.hid h
  clear hr hz h
  go_enter Try.func248, Try.ntmps248
  go_wp2
  go_loopw [4] (fun i wr => ∃ k : Nat, k ≤ len ∧ i = .int .i64 k ∧ wr.rowIs w.heap.size 28 len (fillFG zs k) ∧ Ext w wr) (fun i _ => len - (intOf i).toNat)
  case atStart => exact ⟨0, Nat.zero_le _, rfl, (World.rowIs_made _ _ _ _).congr fun i _ => rfl, Ext.alloc _ _⟩
  case round =>
    obtain ⟨k, hk, rfl, hrow, hext⟩ := hrel
    by_cases hlt : k < len
    · rcases HR.out with h0 | ⟨b, off, rfl, hc⟩
      · omega
      have hcell : wr.cell? ⟨b, off + k, none⟩ = some (.float .f32 (zs[k]?.getD 0)) := by
        have h1 := hc k hlt
        rw [hext.cell b _ (World.block_lt_of_cell? w ⟨b, off + k, none⟩ h1)]; exact h1
      have hcur := hrow.cell hlt
      have hfro := hrow.frozen k
      have HS := Lib.hid (fillFG_step zs k hrow)
      have HE := Lib.hid (show Ext w (wr.setCell ⟨w.heap.size, k, none⟩ (.float .f32 (zs[k]?.getD 0))) from Below.setCell hext (Nat.le_refl _) _)
      clear hc hrow hext
      go_wp2
      go_roundw
      case rel => exact ⟨k + 1, by omega, by go_num, HS.out, HE.out⟩
      case measure => simp [intOf]; omega
    · obtain rfl : k = len := by omega
      have HS := Lib.hid hrow
      have HE := Lib.hid hext
      clear hrow hext
      go_wp2
      go_ret
      exact ⟨_, _, rfl, own_made (by rw [flos_length]; exact HZ.out) (Nat.le_refl _) HS.out (fun i hi => by rw [flos_get zs i (by rw [HZ.out]; exact hi)]; unfold fillFG; rw [if_pos hi]), HE.out⟩
set_option maxHeartbeats 8000000 in
theorem c_eqG (b off cap b' off' cap' len : Nat) (zs : List Nat) (w : World) (hm : len ≤ maxLen)
    (hc : ∀ i, i < len → w.cell? ⟨b, off + i, none⟩ = some (.float .f32 (zs[i]?.getD 0))) (hc' : ∀ i, i < len → w.cell? ⟨b', off' + i, none⟩ = some (.float .f32 (zs[i]?.getD 0))) :
    Calls Try.prog 249 #[.slice (some ⟨b, off, none⟩) len cap, .slice (some ⟨b', off', none⟩) len cap'] w fun e w' => e = .returned (.bool true) ∧ ∃ n, w' = w.drewN n := by
  unfold maxLen at hm
  have HC := Lib.hid hc
  have HC' := Lib.hid hc'
  clear hc hc'
  go_enter Try.func249, Try.ntmps249
  go_wp2
  go_loopw [5] (fun i wr => ∃ (k n : Nat), k ≤ len ∧ i = .int .i64 k ∧ wr = w.drewN n) (fun i _ => len - (intOf i).toNat)
  case atStart => exact ⟨0, 0, Nat.zero_le _, rfl, rfl⟩
  case round =>
    obtain ⟨k, n, hk, rfl, rfl⟩ := hrel
    by_cases hlt : k < len
    · have hcell := HC.out k hlt
      have hcell' := HC'.out k hlt
      have hlt' : (k : Int) < (len : Int) := by omega
      go_wp2
      go_region_with (go_at_call 73; refine (c_sameFloat _ _ _ (by rw [fv_wideR, fv_wideR])).mono ?_; rintro e w' ⟨rfl, n, rfl⟩)
      all_goals
        go_wp2
        go_roundw
        case rel => exact ⟨k + 1, _, by omega, by go_num, rfl⟩
        case measure => simp [intOf]; omega
    · obtain rfl : k = len := by omega
      go_wp2
      go_ret
      exact ⟨rfl, _, rfl⟩
theorem c_eqG_nil (a a' : Option Addr) (cap cap' : Nat) (w : World) :
    Calls Try.prog 249 #[.slice a 0 cap, .slice a' 0 cap'] w fun e w' => e = .returned (.bool true) ∧ w' = w := by
  go_enter Try.func249, Try.ntmps249
  go_wp2
  go_loop [5] (fun i => i = .int .i64 0) (fun i => 0)
  case atStart => rfl
  case round =>
    obtain rfl := hrel
    go_wp2
    go_ret
    exact ⟨rfl, rfl⟩
theorem c_eqG_E (a a' : Option Addr) (len cap cap' : Nat) (zs : List Nat) (w : World) (hm : len ≤ 1048576) (h : Reads w a len (flos zs)) (h' : Reads w a' len (flos zs)) :
    Calls Try.prog 249 #[.slice a len cap, .slice a' len cap'] w fun e w' => e = .returned (.bool true) ∧ Ext w w' := by
  obtain ⟨hz, hr⟩ := h.flo
  obtain ⟨_, hr'⟩ := h'.flo
  rcases hr with h0 | ⟨b, off, rfl, hc⟩
  · subst h0
    exact (c_eqG_nil a a' cap cap' w).mono (by rintro e w' ⟨rfl, rfl⟩; exact ⟨rfl, Ext.refl _⟩)
  rcases hr' with h0 | ⟨b', off', rfl, hc'⟩
  · subst h0
    exact (c_eqG_nil _ a' cap cap' w).mono (by rintro e w' ⟨rfl, rfl⟩; exact ⟨rfl, Ext.refl _⟩)
  exact (c_eqG b off cap b' off' cap' len zs w (by unfold maxLen; omega) hc hc').mono (by rintro e w' ⟨rfl, q, rfl⟩; exact ⟨rfl, Ext.drewN _ _⟩)
/-- marks are written into a slice of the call's own -/
theorem c_markG (lo hi : Nat) (a : Option Addr) (n cap s : Nat) (vs : List Value) (w : World) (hn : n ≤ 1048576) (hs : s ≤ 1073741824) (h : Own 28 w lo hi a n cap vs) :
    Calls Try.prog 250 #[.slice a n cap, .int .i64 s] w fun e w' => e = .returned (.int .i64 ((s + n : Nat) : Int)) ∧ Own 28 w' lo hi a n cap (flos (fmarks s n)) ∧ Touch lo hi w w' := by
  obtain ⟨hl, hc, hr⟩ := h
  rcases hr with ⟨rfl, rfl⟩ | ⟨g, f, rfl, g1, g2, hrow, hf⟩
  · obtain rfl : n = 0 := by omega
    go_enter Try.func250, Try.ntmps250
    go_wp2
    go_loop [1, 5] (fun x y => x = .int .i64 s ∧ y = .int .i64 0) (fun _ _ => 0)
    case atStart => exact ⟨rfl, rfl⟩
    case round =>
      obtain ⟨rfl, rfl⟩ := hrel
      go_wp2
      go_ret
      exact ⟨rfl, Own.nil _ _ _ _, Touch.refl _ _ _⟩
  · have H0 := Lib.hid hrow
    clear hrow hf hl
    go_enter Try.func250, Try.ntmps250
    go_wp2
    go_loopw [1, 5] (fun x y wr => ∃ k : Nat, k ≤ n ∧ x = .int .i64 ((s + k : Nat) : Int) ∧ y = .int .i64 k ∧ wr.rowIs g 28 cap (markFG f s k) ∧ Touch lo hi w wr) (fun _ i _ => n - (intOf i).toNat)
    case atStart => exact ⟨0, Nat.zero_le _, rfl, rfl, H0.out.congr fun i _ => rfl, Touch.refl _ _ _⟩
    case round =>
      obtain ⟨k, hk, rfl, rfl, hrow, ht⟩ := hrel
      by_cases hlt : k < n
      · have hcur := hrow.cell (show k < cap by omega)
        have hfro := hrow.frozen k
        have HS := Lib.hid (markFG_step f s k hrow)
        have HT := Lib.hid (ht.trans (Touch.setCell wr (a := ⟨g, k, none⟩) g1 g2 (.float .f32 (fmark s k))))
        clear hrow ht
        go_wp2
        go_roundw
        case rel => exact ⟨k + 1, by omega, by go_num, by go_num, HS.out, HT.out⟩
        case measure => simp [intOf]; omega
      · obtain rfl : k = n := by omega
        have HS := Lib.hid hrow
        have HT := Lib.hid ht
        clear hrow ht
        go_wp2
        go_ret
        exact ⟨rfl, ⟨by rw [flos_length, fmarks_length], hc, .inr ⟨g, _, rfl, g1, g2, HS.out, fun i hi => by rw [flos_get _ i (by rw [fmarks_length]; exact hi), fmarks_get s k i hi]; unfold markFG; rw [if_pos hi]⟩⟩, HT.out⟩
theorem c_markG_k (lo hi : Nat) (a : Option Addr) (n cap s : Nat) (vs : List Value) (w : World) (hn : n ≤ 1048576) (hs : s ≤ 1073741824) (h : Own 28 w lo hi a n cap vs) :
    Calls Try.prog 250 #[.slice a n cap, .int .i64 s] w (RetMarkK 28 lo hi a n cap s (flos (fmarks s n)) w) := by
  obtain ⟨h1, h2, hr⟩ := h
  rcases hr with ⟨rfl, rfl⟩ | ⟨g, f, rfl, g1, g2, hrow, hf⟩
  · refine (c_markG 0 0 none n 0 s vs w hn hs ⟨h1, h2, .inl ⟨rfl, rfl⟩⟩).mono ?_
    rintro e w' ⟨rfl, o, t⟩
    exact ⟨rfl, ⟨o.1, o.2.1, .inl ⟨rfl, rfl⟩⟩, ⟨t.os, t.tape, t.output, t.size, fun k hk _ => t.block k hk (.inr (Nat.zero_le _))⟩, fun t' lo' hi' b' n' c' vs' _ ho => ho.of_block fun k _ _ hk => t.block k hk (.inr (Nat.zero_le _))⟩
  · refine (c_markG g (g + 1) (some ⟨g, 0, none⟩) n cap s vs w hn hs ⟨h1, h2, .inr ⟨g, f, rfl, Nat.le_refl _, Nat.lt_succ_self _, hrow, hf⟩⟩).mono ?_
    rintro e w' ⟨rfl, o, t⟩
    exact ⟨rfl, o.wide g1 (by omega), t.wide g1 (by omega), Keeps.of_touch t⟩
/-- marks are there -/
theorem c_heldG_E (a : Option Addr) (n cap s : Nat) (w : World) (hn : n ≤ 1048576) (hs : s ≤ 1073741824) (h : Reads w a n (flos (fmarks s n))) :
    Calls Try.prog 251 #[.slice a n cap, .int .i64 s] w fun e w' => e = .returned (.int .i64 ((s + n : Nat) : Int)) ∧ Ext w w' := by
  obtain ⟨_, hr⟩ := h.flo
  have HR := Lib.hid hr
  clear hr h
  go_enter Try.func251, Try.ntmps251
  go_wp2
  go_loopw [1, 5] (fun x y wr => ∃ k : Nat, k ≤ n ∧ x = .int .i64 ((s + k : Nat) : Int) ∧ y = .int .i64 k ∧ Ext w wr) (fun _ i _ => n - (intOf i).toNat)
  case atStart => exact ⟨0, Nat.zero_le _, rfl, rfl, Ext.refl _⟩
  case round =>
    obtain ⟨k, hk, rfl, rfl, hx⟩ := hrel
    by_cases hlt : k < n
    · rcases HR.out with h0 | ⟨b, off, rfl, hc⟩
      · omega
      have hcell : wr.cell? ⟨b, off + k, none⟩ = some (.float .f32 (fmark s k)) := by
        have h1 := hc k hlt
        rw [fmarks_get s n k hlt] at h1
        exact hx.some h1
      have hcast : ((s + k : Nat) : Int) = (s : Int) + (k : Int) := by omega
      have hms := mark_self ((s : Int) + (k : Int))
      have hms2 : (FloatKind.f32.format.order (floatOfInt .f32 ((s : Int) + (k : Int))) (floatOfInt .f32 ((s : Int) + (k : Int))) != some .eq) = false := by rw [bne_of_beq hms]; rfl
      have HX := Lib.hid hx
      unfold fmark at hcell
      rw [hcast] at hcell
      clear hc hx hcast
      go_wp2
      all_goals try go_region
      all_goals
        go_wp2
        go_roundw
        case rel => exact ⟨k + 1, by omega, by go_num, by go_num, by first | exact HX.out | exact HX.out.trans (Ext.drewN _ _) | exact HX.out.stepD⟩
        case measure => simp [intOf]; omega
    · obtain rfl : k = n := by omega
      have HX := Lib.hid hx
      clear hx
      go_wp2
      go_ret
      exact ⟨rfl, HX.out⟩
theorem c_szG_ok (a : Option Addr) (n cap l : Nat) (w : World) (h : n ≤ l) (hl : l ≤ 1048576) : Calls Try.prog 246 #[.slice a n cap, .int .i64 l] w fun e w' => e = .returned (.int .i64 ((l - n : Nat) : Int)) ∧ w' = w := by
  have e : ((l - n : Nat) : Int) = (l : Int) - (n : Int) := by omega
  have h' : (n : Int) ≤ (l : Int) := by omega
  have hl' : (l : Int) ≤ 1048576 := by omega
  have E := Lib.hid e
  clear e
  go_enter Try.func246, Try.ntmps246
  go_wp2
  go_ret
  exact ⟨by rw [E.out]; rfl, rfl⟩
theorem c_szG_no (a : Option Addr) (n cap l : Nat) (w : World) (h : l < n) (hl : l ≤ 1048576) (hn : n ≤ maxLen) : Calls Try.prog 246 #[.slice a n cap, .int .i64 l] w fun e w' => e = .returned (.int .i64 (-1)) ∧ w' = w := by
  unfold maxLen at hn
  have h' : (l : Int) < (n : Int) := by omega
  have hl' : (l : Int) ≤ 1048576 := by omega
  go_enter Try.func246, Try.ntmps246
  go_wp2
  go_ret
  exact ⟨rfl, rfl⟩
end Go.Proofs.Ytfbapbgiegploaa
