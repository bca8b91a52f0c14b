/- Slices of 32-bit floats: how one is opened; copies, sums, products of lists; the laws' walks. -/
import Derived.Test.YtnjkpapjioeffabCon
import Derived.Deep.Slices
import Derived.Deep.OwnRows
import Derived.Below
import Derived.WalkSmall
namespace Go.Proofs.Ytnjkpapjioeffab
open Go.ChangeShapes Go.WideShapes Go.ChangeAt Go.RowKit Go.Proofs.Ytnjkpapjioeffab.Flo
set_option linter.unusedVariables false
attribute [local go_sem] run_fl_add run_fl_sub run_fl_mul run_fl_quo run_conv run_store_float run_store_complex

/-- a slice of floats that came in: nil, or its first 'len' cells are the floats 'zs' -/
def IsFRow (k : FloatKind) (w : World) (a : Option Addr) (len cap : Nat) (zs : List Nat) : Prop :=
  (a = none ∧ len = 0 ∧ cap = 0 ∧ zs = []) ∨
  ∃ x, a = some x ∧ len ≤ cap ∧ cap ≤ maxLen ∧ zs.length = len ∧ (∀ i, i < len → w.cell? (x.add i) = some (.float k (zs[i]?.getD 0))) ∧ ∀ n ∈ zs, (Lit.float k n).wf = true

theorem trod_float1 {H : Type} {enc : TypeId × Value → H} {P : Program} {w : World} {base : Nat} {spare : Nat → Bool} {held : Bool} {n : Nat} {e : TypeId} {k : FloatKind} {V : Value} {y : DataW H × List MemPlace} (he : P.underlying e = some (.float k))
    (h : DataW.trod enc P w base spare held n e [V] = some y) : ∃ b, V = .float k b ∧ (Lit.float k b).wf = true := by
  cases n with
  | zero => simp [DataW.trod] at h
  | succ n =>
    simp only [DataW.trod, he] at h
    cases V <;> simp at h
    rename_i k' b
    obtain ⟨⟨rfl, hw⟩, _⟩ := h
    exact ⟨b, rfl, hw⟩

theorem open_floats {H : Type} {enc : TypeId × Value → H} {P : Program} {w : World} {base : Nat} {spare : Nat → Bool} {held : Bool} {t e : TypeId} {k : FloatKind} {fuel : Nat} {a : Option Addr} {len cap : Nat} {x : DataW H × List MemPlace}
    (ht : P.underlying t = some (.slice e)) (he : P.underlying e = some (.float k)) (hc : P.cellsOf e = 1) (h : DataW.trod enc P w base spare held fuel t [.slice a len cap] = some x) : ∃ zs, IsFRow k w a len cap zs := by
  rcases Deep.open_slice1 ht hc h with ⟨hcs, _⟩ | ⟨y, l, c, m, n, V, D, Pl, hcs, _, hl, hm, hmm, _, hx⟩
  · simp at hcs
    obtain ⟨rfl, rfl, rfl⟩ := hcs
    exact ⟨[], .inl ⟨rfl, rfl, rfl, rfl⟩⟩
  · simp at hcs
    obtain ⟨rfl, rfl, rfl⟩ := hcs
    have hlm : len ≤ m := by rw [hmm]; split <;> omega
    have each : ∀ i, i < len → ∃ b, V i = .float k b ∧ (Lit.float k b).wf = true := fun i hi => trod_float1 he (hx i (by omega)).2
    refine ⟨(List.range len).map (fun i => match V i with | .float _ b => b | _ => 0), .inr ⟨y, rfl, hl, hm, by simp, ?_, ?_⟩⟩
    · intro i hi
      obtain ⟨b, hb, _⟩ := each i hi
      rw [(hx i (by omega)).1, hb]
      simp [hi, hb]
    · intro z hz
      simp only [List.mem_map, List.mem_range] at hz
      obtain ⟨i, hi, rfl⟩ := hz
      obtain ⟨b, hb, hw⟩ := each i hi
      rw [hb]; exact hw

/-- a float of this value is returned; some draws -/
def RetF (k : FloatKind) (v : Option Nat) (w : World) (e : Ending) (w' : World) : Prop := ∃ r n, e = .returned (.float k r) ∧ w' = w.drewN n ∧ fv k r = v ∧ r < 2 ^ k.format.width
/-- .. and yes -/
def RetFB (v : Option Nat) (w : World) (e : Ending) (w' : World) : Prop := ∃ r n, e = .returned (.tuple #[.float .f32 r, .bool true]) ∧ w' = w.drewN n ∧ fv .f32 r = v ∧ r < 2 ^ FloatKind.f32.format.width
theorem RetF.mk {k : FloatKind} {v : Option Nat} {w : World} {r : Nat} (n : Nat) (h : fv k r = v) (hr : r < 2 ^ k.format.width) : RetF k v w (.returned (.float k r)) (w.drewN n) := ⟨r, n, rfl, rfl, h, hr⟩
theorem RetFB.mk {v : Option Nat} {w : World} {r : Nat} (n : Nat) (h : fv .f32 r = v) (hr : r < 2 ^ FloatKind.f32.format.width) : RetFB v w (.returned (.tuple #[.float .f32 r, .bool true])) (w.drewN n) := ⟨r, n, rfl, rfl, h, hr⟩

/-- the cells of a copy, k of whose n numbers are there -/
def fillA (zs : List Nat) (k n : Nat) : Array Value := ((zs.take k).map (Value.float .f32) ++ List.replicate (n - k) (Value.float .f32 0)).toArray
theorem fillA_zero (zs : List Nat) (n : Nat) : madeCells #[Value.float .f32 0] n = fillA zs 0 n := by
  apply Array.ext'
  simp [madeCells, fillA]
  apply List.ext_getElem
  · simp
  · intro i h1 h2; simp [Nat.mod_one]
theorem fillA_step (zs : List Nat) (k n : Nat) (hk : k < n) (hn : zs.length = n) : (fillA zs k n).setIfInBounds k (.float .f32 (zs[k]?.getD 0)) = fillA zs (k + 1) n := by
  apply Array.ext'
  rw [Array.toList_setIfInBounds]
  simp only [fillA]
  apply List.ext_getElem?
  intro i
  rw [List.getElem?_set]
  have hl : ((zs.take k).map (Value.float .f32)).length = k := by simp; omega
  have hl' : ((zs.take (k + 1)).map (Value.float .f32)).length = k + 1 := by simp; omega
  by_cases h : k = i
  · subst h
    rw [if_pos rfl, if_pos (by simp; omega), List.getElem?_append_left (by omega)]
    simp [hn, hk]
  · rw [if_neg h]
    by_cases h2 : i < k
    · rw [List.getElem?_append_left (by omega), List.getElem?_append_left (by omega)]
      simp [h2, Nat.lt_succ_of_lt h2]
    · rw [List.getElem?_append_right (by omega), List.getElem?_append_right (by omega), hl, hl']
      simp only [List.getElem?_replicate]
      by_cases h3 : i < n
      · rw [if_pos (by omega), if_pos (by omega)]
      · rw [if_neg (by omega), if_neg (by omega)]
theorem fillA_all (zs : List Nat) (n : Nat) (hn : zs.length = n) : fillA zs n n = (zs.map (Value.float .f32)).toArray := by
  simp [fillA, List.take_of_length_le (Nat.le_of_eq hn)]
theorem fillA_get (zs : List Nat) (k n : Nat) (hk : k < n) (hn : zs.length = n) : (fillA zs k n)[k]? = some (.float .f32 0) := by
  have hl : ((zs.take k).map (Value.float .f32)).length = k := by simp; omega
  simp only [fillA, List.getElem?_toArray]
  rw [List.getElem?_append_right (by omega), hl, List.getElem?_replicate, if_pos (by omega)]
theorem fillA_size (zs : List Nat) (k n : Nat) (hk : k ≤ n) (hn : zs.length = n) : (fillA zs k n).size = n := by simp [fillA]; omega
theorem info_f32 : (Try.prog.info? 22).map (fun i => (i.zero, i.size, i.bytes)) = some (some (.float .f32 0), 1, 4) := by kernel_rfl
theorem c_toF (b off len cap : Nat) (zs : List Nat) (w : World) (hl : len ≤ 1048576) (hz : zs.length = len) (hc : ∀ i, i < len → w.cell? ⟨b, off + i, none⟩ = some (.float .f32 (zs[i]?.getD 0))) :
    Calls Try.prog 17 #[.slice (some ⟨b, off, none⟩) len cap] w fun e w' => e = .returned (.slice (some ⟨w.heap.size, 0, none⟩) len len) ∧ w' = w.alloc (.cells (zs.map (Value.float .f32)).toArray 22) := by
  have hmk := run_make_row' (P := Try.prog) 27 22 (.float .f32 0) 4 Try.underlying27 info_f32 rfl .i64 .i64 len (by omega) (by omega)
  have H0 := Lib.hid (fillA_zero zs len)
  have HC := Lib.hid hc
  have HZ := Lib.hid hz
  clear hc hz
  go_enter Try.func17, Try.ntmps17
  go_wp2
  go_loopw [4] (fun i wr => ∃ k : Nat, k ≤ len ∧ i = .int .i64 k ∧ wr = w.alloc (.cells (fillA zs k len) 22)) (fun i _ => len - (intOf i).toNat)
  case atStart => exact ⟨0, Nat.zero_le _, rfl, by rw [H0.out]⟩
  case round =>
    obtain ⟨k, hk, rfl, rfl⟩ := hrel
    by_cases hlt : k < len
    · have hcell := HC.out k hlt
      have hb : b < w.heap.size := World.block_lt_of_cell? w ⟨b, off + k, none⟩ hcell
      have hsz : (fillA zs k len).size = len := fillA_size zs k len hk HZ.out
      have HS := Lib.hid (fillA_step zs k len hlt HZ.out)
      have hcell' : ∀ o, (w.alloc o).cell? ⟨b, off + k, none⟩ = some (.float .f32 (zs[k]?.getD 0)) := fun o => by rw [World.cell?_alloc_old _ _ _ (by show b ≠ _; omega)]; exact hcell
      have hget := fillA_get zs k len hlt HZ.out
      go_wp2
      go_roundw
      case rel => exact ⟨k + 1, by omega, by go_num, by rw [← HS.out]⟩
      case measure => simp [intOf]; omega
    · obtain rfl : k = len := by omega
      have HA := Lib.hid (fillA_all zs k HZ.out)
      go_wp2
      go_ret
      exact ⟨rfl, by rw [HA.out]⟩
/-- the sum from left to right, as a value -/
def sumV (zs : List Nat) : Option Nat := zs.foldl (fun s x => fop .add .f32 s (fv .f32 x)) (some 0)
theorem sumV_step (zs : List Nat) (k : Nat) (h : k < zs.length) : sumV (zs.take (k + 1)) = fop .add .f32 (sumV (zs.take k)) (fv .f32 (zs[k]?.getD 0)) := by
  unfold sumV
  rw [List.take_succ_eq_append_getElem h, List.foldl_append]
  simp [h]
theorem c_impl_SumNumbers (b off len cap : Nat) (zs : List Nat) (w : World) (hl : len ≤ 256) (hz : zs.length = len) (hc : ∀ i, i < len → w.cell? ⟨b, off + i, none⟩ = some (.float .f32 (zs[i]?.getD 0))) :
    Calls Try.prog 18 #[.slice (some ⟨b, off, none⟩) len cap] w (RetFB (sumV zs) w) := by
  have hl' : (len : Int) ≤ 256 := by omega
  have HC := Lib.hid hc
  have HZ := Lib.hid hz
  clear hc hz
  go_enter Try.func18, Try.ntmps18
  go_wp2
  go_loopw [4, 12] (fun s i wr => ∃ (k n r : Nat), k ≤ len ∧ i = .int .i64 k ∧ wr = w.drewN n ∧ s = .float .f32 r ∧ fv .f32 r = sumV (zs.take k) ∧ r < 2 ^ FloatKind.f32.format.width) (fun _ i _ => len - (intOf i).toNat)
  case atStart => exact ⟨0, 0, 0, Nat.zero_le _, rfl, rfl, rfl, rfl, Nat.two_pow_pos _⟩
  case round =>
    obtain ⟨k, n, r, hk, rfl, rfl, rfl, hv, hr⟩ := hrel
    have HV := Lib.hid hv
    have HR := Lib.hid hr
    clear hv hr
    by_cases hlt : k < len
    · have hcell := HC.out k hlt
      have HS := Lib.hid (sumV_step zs k (by rw [HZ.out]; exact hlt))
      go_wp2
      go_roundw
      case rel => exact ⟨k + 1, _, _, by omega, by go_num, rfl, rfl, by rw [HS.out, fv_flR, HV.out], flR_lt _ _ _ _ _⟩
      case measure => simp [intOf]; omega
    · obtain rfl : k = len := by omega
      go_wp2
      go_ret2
      exact RetFB.mk n (by rw [HV.out, List.take_of_length_le (Nat.le_of_eq HZ.out)]) HR.out
theorem c_impl_SumNumbers_no (a : Option Addr) (len cap : Nat) (w : World) (hl : 256 < len) :
    Calls Try.prog 18 #[.slice a len cap] w fun e w' => e = .returned (.tuple #[.float .f32 0, .bool false]) ∧ w = w' := by
  have hl' : (256 : Int) < (len : Int) := by omega
  go_enter Try.func18, Try.ntmps18
  go_wp2
  go_ret2
  exact ⟨rfl, rfl⟩
theorem c_spec_l01Sum (b off len cap : Nat) (zs : List Nat) (w : World) (hl : len ≤ 256) (hz : zs.length = len) (hc : ∀ i, i < len → w.cell? ⟨b, off + i, none⟩ = some (.float .f32 (zs[i]?.getD 0))) :
    Calls Try.prog 41 #[.slice (some ⟨b, off, none⟩) len cap] w (RetF .f32 (sumV zs) w) := by
  have hl' : (len : Int) ≤ 256 := by omega
  have HC := Lib.hid hc
  have HZ := Lib.hid hz
  clear hc hz
  go_enter Try.func41, Try.ntmps41
  go_wp2
  go_loopw [3, 4] (fun s i wr => ∃ (k n r : Nat), k ≤ len ∧ i = .int .i64 k ∧ wr = w.drewN n ∧ s = .float .f32 r ∧ fv .f32 r = sumV (zs.take k) ∧ r < 2 ^ FloatKind.f32.format.width) (fun _ i _ => len - (intOf i).toNat)
  case atStart => exact ⟨0, 0, 0, Nat.zero_le _, rfl, rfl, rfl, rfl, Nat.two_pow_pos _⟩
  case round =>
    obtain ⟨k, n, r, hk, rfl, rfl, rfl, hv, hr⟩ := hrel
    have HV := Lib.hid hv
    have HR := Lib.hid hr
    clear hv hr
    by_cases hlt : k < len
    · have hcell := HC.out k hlt
      have HS := Lib.hid (sumV_step zs k (by rw [HZ.out]; exact hlt))
      go_wp2
      go_roundw
      case rel => exact ⟨k + 1, _, _, by omega, by go_num, rfl, rfl, by rw [HS.out, fv_flR, HV.out], flR_lt _ _ _ _ _⟩
      case measure => simp [intOf]; omega
    · obtain rfl : k = len := by omega
      go_wp2
      go_ret
      exact RetF.mk n (by rw [HV.out, List.take_of_length_le (Nat.le_of_eq HZ.out)]) HR.out
theorem c_spec_l01Few_yes (a : Option Addr) (len cap : Nat) (w : World) (h : len ≤ 256) :
    Calls Try.prog 40 #[.slice a len cap] w fun e w' => e = .returned (.bool true) ∧ w = w' := by
  have h' : (len : Int) ≤ 256 := by omega
  go_enter Try.func40, Try.ntmps40
  go_wp2
  go_ret
  exact ⟨rfl, rfl⟩
theorem c_spec_l01Few_no (a : Option Addr) (len cap : Nat) (w : World) (h : 256 < len) :
    Calls Try.prog 40 #[.slice a len cap] w fun e w' => e = .returned (.bool false) ∧ w = w' := by
  have h' : ¬ (len : Int) ≤ 256 := by omega
  go_enter Try.func40, Try.ntmps40
  go_wp2
  go_ret
  exact ⟨rfl, rfl⟩
theorem c_spec_SumNumbers (b off len cap : Nat) (zs : List Nat) (w : World) (hl : len ≤ 256) (hz : zs.length = len) (hc : ∀ i, i < len → w.cell? ⟨b, off + i, none⟩ = some (.float .f32 (zs[i]?.getD 0))) :
    Calls Try.prog 16 #[.slice (some ⟨b, off, none⟩) len cap] w (RetFB (sumV zs) w) := by
  have hl' : (len : Int) ≤ 256 := by omega
  have HC := Lib.hid hc
  have HZ := Lib.hid hz
  clear hc hz
  go_enter Try.func16, Try.ntmps16
  go_wp2_with (first | (go_at_call 40; refine (c_spec_l01Few_yes _ _ _ _ hl).mono ?_; rintro e w' ⟨rfl, rfl⟩) | (go_at_call 41; refine (c_spec_l01Sum _ _ _ _ zs _ hl HZ.out HC.out).mono ?_; rintro e w' ⟨r, n, rfl, rfl, hv, hr⟩))
  go_ret2
  exact RetFB.mk _ hv hr
theorem c_spec_SumNumbers_no (a : Option Addr) (len cap : Nat) (w : World) (hl : 256 < len) :
    Calls Try.prog 16 #[.slice a len cap] w fun e w' => e = .returned (.tuple #[.float .f32 0, .bool false]) ∧ w = w' := by
  have hl' : ¬ (len : Int) ≤ 256 := by omega
  go_enter Try.func16, Try.ntmps16
  go_wp2_with (go_at_call 40; refine (c_spec_l01Few_no _ _ _ _ hl).mono ?_; rintro e w' ⟨rfl, rfl⟩)
  go_ret2
  exact ⟨rfl, rfl⟩

/-- what a walk is told of a slice: its numbers, and where they lie if there are any -/
def IsF (k : FloatKind) (w : World) (a : Option Addr) (len : Nat) (zs : List Nat) : Prop :=
  zs.length = len ∧ (len = 0 ∨ ∃ b off, a = some ⟨b, off, none⟩ ∧ ∀ i, i < len → w.cell? ⟨b, off + i, none⟩ = some (.float k (zs[i]?.getD 0)))
theorem add_plain (b off i : Nat) : (⟨b, off, none⟩ : Addr).add i = ⟨b, off + i, none⟩ := by unfold Addr.add; split <;> simp_all
theorem IsFRow.isF {k : FloatKind} {w : World} {a : Option Addr} {len cap : Nat} {zs : List Nat} (h : IsFRow k w a len cap zs) : IsF k w a len zs := by
  rcases h with ⟨rfl, rfl, rfl, rfl⟩ | ⟨x, rfl, hl, hm, hz, hc, _⟩
  · exact ⟨rfl, .inl rfl⟩
  · refine ⟨hz, ?_⟩
    by_cases h0 : len = 0
    · exact .inl h0
    · obtain ⟨b, off, spot⟩ := x
      have hs := hc 0 (by omega)
      have hspot : spot = none := by simpa [Addr.add] using World.cell?_spot hs
      subst hspot
      exact .inr ⟨b, off, rfl, fun i hi => by rw [← add_plain]; exact hc i hi⟩
theorem IsF.ext {k : FloatKind} {w wx : World} {a : Option Addr} {len : Nat} {zs : List Nat} (h : IsF k w a len zs) (hx : ∀ b o, b < w.heap.size → wx.cell? ⟨b, o, none⟩ = w.cell? ⟨b, o, none⟩) : IsF k wx a len zs := by
  refine ⟨h.1, ?_⟩
  rcases h.2 with h0 | ⟨b, off, rfl, hc⟩
  · exact .inl h0
  · exact .inr ⟨b, off, rfl, fun i hi => by rw [hx b (off + i) (World.block_lt_of_cell? w ⟨b, off + i, none⟩ (hc i hi))]; exact hc i hi⟩
/-- .. of a block of the call's own -/
theorem IsF.made {k : FloatKind} {w : World} {g : Nat} {zs : List Nat} {t : TypeId} {z : Nat × Nat} (h : w.heap[g]? = some (.cells (zs.map (Value.float k)).toArray t z)) : IsF k w (some ⟨g, 0, none⟩) zs.length zs := by
  refine ⟨rfl, .inr ⟨g, 0, rfl, fun i hi => ?_⟩⟩
  rw [cell_of_row w g (0 + i) _ t z h]
  simp [hi]
theorem c_toF_empty (a : Option Addr) (cap : Nat) (w : World) :
    Calls Try.prog 17 #[.slice a 0 cap] w fun e w' => e = .returned (.slice (some ⟨w.heap.size, 0, none⟩) 0 0) ∧ w' = w.alloc (.cells #[] 22) := by
  have hmk : ∀ w, (Instr.makeSlice 27 (.int .i64 0) (.int .i64 0)).run Try.prog w = .ok (.slice (some ⟨w.heap.size, 0, none⟩) 0 0) (w.alloc (.cells #[] 22)) := fun w => by
    have h := run_make_row' (P := Try.prog) 27 22 (.float .f32 0) 4 Try.underlying27 info_f32 rfl .i64 .i64 0 (by omega) (by omega) w
    rw [show madeCells #[Value.float .f32 0] 0 = #[] from by simp [madeCells]] at h
    exact h
  go_enter Try.func17, Try.ntmps17
  go_wp2
  go_loop [4] (fun i => i = .int .i64 0) (fun i => 0)
  case atStart => rfl
  case round =>
    obtain rfl := hrel
    go_wp2
    go_ret
    exact ⟨rfl, rfl⟩
/-- a copy of whatever slice -/
theorem c_toF_any (a : Option Addr) (len cap : Nat) (zs : List Nat) (w : World) (hl : len ≤ 1048576) (h : IsF .f32 w a len zs) :
    Calls Try.prog 17 #[.slice a len cap] w fun e w' => e = .returned (.slice (some ⟨w.heap.size, 0, none⟩) len len) ∧ w' = w.alloc (.cells (zs.map (Value.float .f32)).toArray 22) := by
  rcases h with ⟨hz, h0 | ⟨b, off, rfl, hc⟩⟩
  · subst h0
    obtain rfl := List.eq_nil_of_length_eq_zero hz
    exact c_toF_empty a cap w
  · exact c_toF b off len cap zs w hl hz hc
theorem sumV_nil : sumV [] = some 0 := rfl
theorem c_impl_SumNumbers_any (a : Option Addr) (len cap : Nat) (zs : List Nat) (w : World) (hl : len ≤ 256) (h : IsF .f32 w a len zs) :
    Calls Try.prog 18 #[.slice a len cap] w (RetFB (sumV zs) w) := by
  rcases h with ⟨hz, h0 | ⟨b, off, rfl, hc⟩⟩
  · subst h0
    obtain rfl := List.eq_nil_of_length_eq_zero hz
    go_enter Try.func18, Try.ntmps18
    go_wp2
    go_loop [4, 12] (fun s i => i = .int .i64 0 ∧ s = .float .f32 0) (fun _ i => 0)
    case atStart => exact ⟨rfl, rfl⟩
    case round =>
      obtain ⟨rfl, rfl⟩ := hrel
      go_wp2
      go_ret2
      exact RetFB.mk 0 rfl (Nat.two_pow_pos _)
  · exact c_impl_SumNumbers b off len cap zs w hl hz hc
theorem c_spec_SumNumbers_any (a : Option Addr) (len cap : Nat) (zs : List Nat) (w : World) (hl : len ≤ 256) (h : IsF .f32 w a len zs) :
    Calls Try.prog 16 #[.slice a len cap] w (RetFB (sumV zs) w) := by
  rcases h with ⟨hz, h0 | ⟨b, off, rfl, hc⟩⟩
  · subst h0
    obtain rfl := List.eq_nil_of_length_eq_zero hz
    have c : ∀ wx, Calls Try.prog 41 #[.slice a 0 cap] wx fun e w' => e = .returned (.float .f32 0) ∧ wx = w' := by
      intro wx
      go_enter Try.func41, Try.ntmps41
      go_wp2
      go_loop [3, 4] (fun s i => i = .int .i64 0 ∧ s = .float .f32 0) (fun _ i => 0)
      case atStart => exact ⟨rfl, rfl⟩
      case round =>
        obtain ⟨rfl, rfl⟩ := hrel
        go_wp2
        go_ret
        exact ⟨rfl, rfl⟩
    have C := Lib.hid c; clear c
    go_enter Try.func16, Try.ntmps16
    go_wp2_with (first | (go_at_call 40; refine (c_spec_l01Few_yes _ _ _ _ (by omega)).mono ?_; rintro e w' ⟨rfl, rfl⟩) | (go_at_call 41; refine (C.out _).mono ?_; rintro e w' ⟨rfl, rfl⟩))
    go_ret2
    exact RetFB.mk 0 rfl (Nat.two_pow_pos _)
  · exact c_spec_SumNumbers b off len cap zs w hl hz hc
/-- what was there is there, as it was -/
def Ext (w w' : World) : Prop := Below w.heap.size w w'
theorem Ext.refl (w : World) : Ext w w := Below.refl _ _
theorem Ext.size {w w' : World} (h : Ext w w') : w.heap.size ≤ w'.heap.size := by
  have := Below.size h; omega
theorem Ext.trans {a b c : World} (h : Ext a b) (h' : Ext b c) : Ext a c := Below.trans h (Below.mono h' h.size)
theorem Ext.drewN (w : World) (n : Nat) : Ext w (w.drewN n) := below_drewN (Below.refl _ _) n
theorem Ext.alloc (w : World) (o : Obj) : Ext w (w.alloc o) := (Below.refl _ _).alloc (Nat.le_refl _) _
theorem Ext.cell {w w' : World} (h : Ext w w') : ∀ b o, b < w.heap.size → w'.cell? ⟨b, o, none⟩ = w.cell? ⟨b, o, none⟩ := fun b o hb => Below.cell (p := ⟨b, o, none⟩) h hb
theorem IsF.on {k : FloatKind} {w wx : World} {a : Option Addr} {len : Nat} {zs : List Nat} (h : IsF k w a len zs) (e : Ext w wx) : IsF k wx a len zs := h.ext e.cell
def RetCopy (zs : List Nat) (w : World) (e : Ending) (w' : World) : Prop := ∃ g, e = .returned (.slice (some ⟨g, 0, none⟩) zs.length zs.length) ∧ IsF .f32 w' (some ⟨g, 0, none⟩) zs.length zs ∧ Ext w w'
theorem c_toF_E (a : Option Addr) (cap : Nat) (zs : List Nat) (w : World) (hl : zs.length ≤ 1048576) (h : IsF .f32 w a zs.length zs) :
    Calls Try.prog 17 #[.slice a zs.length cap] w (RetCopy zs w) := by
  refine (c_toF_any a zs.length cap zs w hl h).mono ?_
  rintro e w' ⟨rfl, rfl⟩
  exact ⟨_, rfl, IsF.made (t := 22) (z := (0, 0)) (heap_alloc_new w _), Ext.alloc _ _⟩
end Go.Proofs.Ytnjkpapjioeffab
