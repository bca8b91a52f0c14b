/- BitsOfHash: what both sides answer; slices of bools. -/
import Derived.Test.YtdbllnmhlfkhbaaSca
import Derived.Test.YtdbllnmhlfkhbaaIls
import Derived.Test.YtdbllnmhlfkhbaaLawS
namespace Go.Proofs.Ytdbllnmhlfkhbaa
open Go.ChangeShapes Go.WideShapes Go.ChangeAt Go.RowKit
set_option linter.unusedVariables false
theorem info_bool : (Try.prog.info? 4).map (fun i => (i.zero, i.size, i.bytes)) = some (some (.bool false), 1, 1) := by kernel_rfl
def bools (bs : List Bool) : List Value := bs.map Value.bool
theorem bools_length (bs : List Bool) : (bools bs).length = bs.length := List.length_map _
theorem bools_get (bs : List Bool) (i : Nat) (h : i < bs.length) : (bools bs)[i]? = some (.bool (bs[i]?.getD false)) := by simp [bools, h]
theorem Reads.bool {w : World} {a : Option Addr} {n : Nat} {bs : List Bool} (h : Reads w a n (bools bs)) : bs.length = n ∧ (n = 0 ∨ ∃ b off, a = some ⟨b, off, none⟩ ∧ ∀ i, i < n → w.cell? ⟨b, off + i, none⟩ = some (.bool (bs[i]?.getD false))) := by
  have hl : bs.length = n := by rw [← h.1, bools_length]
  refine ⟨hl, ?_⟩
  rcases h.2 with h0 | ⟨b, off, rfl, hc⟩
  · exact .inl h0
  · exact .inr ⟨b, off, rfl, fun i hi => by rw [hc i hi, bools_get bs i (by omega)]⟩
/-- marks of bools -/
def bmark (s i : Nat) : Bool := ((s + i : Nat) : Int) % 3 == 0
def bmarks (s n : Nat) : List Bool := (List.range n).map (bmark s)
theorem bmarks_length (s n : Nat) : (bmarks s n).length = n := by simp [bmarks]
theorem bmarks_get (s n i : Nat) (h : i < n) : (bmarks s n)[i]?.getD false = bmark s i := by simp [bmarks, h]
def markFB (f : Nat → Value) (s k : Nat) (i : Nat) : Value := if i < k then .bool (bmark s i) else f i
theorem markFB_step (f : Nat → Value) (s k : Nat) {w : World} {b n : Nat} {t : TypeId} (h : w.rowIs b t n (markFB f s k)) : (w.setCell ⟨b, k, none⟩ (.bool (bmark s k))).rowIs b t n (markFB f s (k + 1)) := by
  refine (h.set k _).congr fun i hi => ?_
  unfold markFB
  by_cases e : i = k
  · subst e; rw [if_pos rfl, if_pos (by omega)]
  · rw [if_neg e]
    by_cases e2 : i < k
    · rw [if_pos e2, if_pos (by omega)]
    · rw [if_neg e2, if_neg (by omega)]
def RetMarkB (t : TypeId) (lo hi : Nat) (a : Option Addr) (n c k : Nat) (w : World) (e : Ending) (w' : World) : Prop := e = .returned (.int .i64 ((k + n : Nat) : Int)) ∧ Own t w' lo hi a n c (bools (bmarks k n)) ∧ Touch lo hi w w'
theorem c_eqB_E (a a' : Option Addr) (len cap cap' : Nat) (zs : List Bool) (w : World) (hm : len ≤ 1048576) (h : Reads w a len (bools zs)) (h' : Reads w a' len (bools zs)) :
    Calls Try.prog 30 #[.slice a len cap, .slice a' len cap'] w fun e w' => e = .returned (.bool true) ∧ Ext w w' := by
  obtain ⟨hz, hr⟩ := h.bool
  obtain ⟨_, hr'⟩ := h'.bool
  have HR := Lib.hid hr
  have HR' := Lib.hid hr'
  clear hr hr' hz h h'
  go_enter Try.func30, Try.ntmps30
  go_wp2
  go_loopw [5] (fun i wr => ∃ k : Nat, k ≤ len ∧ i = .int .i64 k ∧ ∃ q, wr = w.drewN q) (fun i _ => len - (intOf i).toNat)
  case atStart => exact ⟨0, Nat.zero_le _, rfl, 0, rfl⟩
  case round =>
    obtain ⟨k, hk, rfl, q, rfl⟩ := hrel
    by_cases hlt : k < len
    · rcases HR.out with h0 | ⟨b, off, rfl, hc⟩
      · omega
      rcases HR'.out with h0 | ⟨b', off', rfl, hc'⟩
      · omega
      have hcell := hc k hlt
      have hcell' := hc' k hlt
      clear hc hc'
      go_wp2
      go_region
      all_goals
        go_wp2
        go_roundw
        case rel => exact ⟨k + 1, by omega, by go_num, _, rfl⟩
        case measure => simp [intOf]; omega
    · obtain rfl : k = len := by omega
      go_wp2
      go_ret
      exact ⟨rfl, Ext.drewN _ _⟩
theorem c_markB1 (lo hi : Nat) (a : Option Addr) (n cap : Nat) (vs : List Value) (w : World) (hn : n ≤ 1048576) (h : Own 4 w lo hi a n cap vs) :
    Calls Try.prog 31 #[.slice a n cap, .int .i64 1] w (RetMarkB 4 lo hi a n cap 1 w) := by
  obtain ⟨hl, hc, hr⟩ := h
  rcases hr with ⟨rfl, rfl⟩ | ⟨g, f, rfl, g1, g2, hrow, hf⟩
  · obtain rfl : n = 0 := by omega
    go_enter Try.func31, Try.ntmps31
    go_wp2
    go_loop [1, 5] (fun x y => x = .int .i64 1 ∧ y = .int .i64 0) (fun _ _ => 0)
    case atStart => exact ⟨rfl, rfl⟩
    case round =>
      obtain ⟨rfl, rfl⟩ := hrel
      go_wp2
      go_ret
      exact ⟨rfl, Own.nil _ _ _ _, Touch.refl _ _ _⟩
  · have H0 := Lib.hid hrow
    clear hrow hf hl
    go_enter Try.func31, Try.ntmps31
    go_wp2
    go_loopw [1, 5] (fun x y wr => ∃ k : Nat, k ≤ n ∧ x = .int .i64 ((1 + k : Nat) : Int) ∧ y = .int .i64 k ∧ wr.rowIs g 4 cap (markFB f 1 k) ∧ Touch lo hi w wr) (fun _ i _ => n - (intOf i).toNat)
    case atStart => exact ⟨0, Nat.zero_le _, rfl, rfl, H0.out.congr fun i _ => rfl, Touch.refl _ _ _⟩
    case round =>
      obtain ⟨k, hk, rfl, rfl, hrow, ht⟩ := hrel
      by_cases hlt : k < n
      · have hcur := hrow.cell (show k < cap by omega)
        have hfro := hrow.frozen k
        have HS := Lib.hid (markFB_step f 1 k hrow)
        have HT := Lib.hid (fun v : Value => ht.trans (Touch.setCell wr (a := ⟨g, k, none⟩) g1 g2 v))
        clear hrow ht
        go_wp2
        go_roundw
        case rel => exact ⟨k + 1, by omega, by go_num, by go_num, HS.out, HT.out _⟩
        case measure => simp [intOf]; omega
      · obtain rfl : k = n := by omega
        have HS := Lib.hid hrow
        have HT := Lib.hid ht
        clear hrow ht
        go_wp2
        go_ret
        exact ⟨rfl, ⟨by rw [bools_length, bmarks_length], hc, .inr ⟨g, _, rfl, g1, g2, HS.out, fun i hi => by rw [bools_get _ i (by rw [bmarks_length]; exact hi), bmarks_get 1 k i hi]; unfold markFB; rw [if_pos hi]⟩⟩, HT.out⟩
theorem c_heldB1 (a : Option Addr) (n cap : Nat) (w : World) (hn : n ≤ 1048576) (h : Reads w a n (bools (bmarks 1 n))) :
    Calls Try.prog 32 #[.slice a n cap, .int .i64 1] w fun e w' => e = .returned (.int .i64 ((1 + n : Nat) : Int)) ∧ Ext w w' := by
  obtain ⟨_, hr⟩ := h.bool
  have HR := Lib.hid hr
  clear hr h
  go_enter Try.func32, Try.ntmps32
  go_wp2
  go_loopw [1, 5] (fun x y wr => ∃ k : Nat, k ≤ n ∧ x = .int .i64 ((1 + k : Nat) : Int) ∧ y = .int .i64 k ∧ wr = w) (fun _ i _ => n - (intOf i).toNat)
  case atStart => exact ⟨0, Nat.zero_le _, rfl, rfl, rfl⟩
  case round =>
    obtain ⟨k, hk, rfl, rfl, rfl⟩ := hrel
    by_cases hlt : k < n
    · rcases HR.out with h0 | ⟨b, off, rfl, hc⟩
      · omega
      have hcell := hc k hlt
      rw [bmarks_get 1 n k hlt] at hcell
      unfold bmark at hcell
      clear hc
      go_wp2
      go_roundw
      case rel => exact ⟨k + 1, by omega, by go_num, by go_num, by first | rfl | trivial⟩
      case measure => simp [intOf]; omega
    · obtain rfl : k = n := by omega
      go_wp2
      go_ret
      exact ⟨rfl, Ext.refl _⟩
/-- a bit of a hash, the greatest first -/
def bitB (h i : Nat) : Bool := bits .and .i64 ((h : Int) / 2 ^ (31 - i)) 1 == 1
def bitsB (key salt n : Int) : Bool := (keyB key && keyB salt) && inB 0 n 32
def bitsZ (h m : Nat) : List Bool := (List.range m).map (bitB h)
def bitsV (key salt n : Int) : List Bool := if bitsB key salt n then bitsZ (hashN key salt) n.toNat else []
theorem bitsZ_length (h m : Nat) : (bitsZ h m).length = m := by simp [bitsZ]
theorem bitsZ_get (h m i : Nat) (hi : i < m) : (bitsZ h m)[i]?.getD false = bitB h i := by simp [bitsZ, hi]
theorem bitsV_no {key salt n : Int} (h : bitsB key salt n = false) : bitsV key salt n = [] := by unfold bitsV; rw [h]; rfl
theorem bitsV_yes {key salt : Int} {m : Nat} (h : bitsB key salt m = true) : bitsV key salt m = bitsZ (hashN key salt) m := by unfold bitsV; rw [h, if_pos rfl]; simp
theorem bitsV_le (key salt n : Int) : (bitsV key salt n).length ≤ 256 := by
  unfold bitsV
  split
  · rename_i h
    unfold bitsB at h
    simp only [Bool.and_eq_true] at h
    have := h.2
    unfold inB at this
    simp only [decide_eq_true_eq] at this
    rw [bitsZ_length]; omega
  · exact Nat.zero_le _
theorem inB_of' {lo k hi : Int} (h : inB lo k hi = true) : lo ≤ k ∧ k ≤ hi := of_decide_eq_true h
theorem inB_ofno' {lo k hi : Int} (h : inB lo k hi = false) : ¬ (lo ≤ k ∧ k ≤ hi) := of_decide_eq_false h
def fillFB (bs : List Bool) (k : Nat) (i : Nat) : Value := if i < k then .bool (bs[i]?.getD false) else .bool false
theorem fillFB_step (bs : List Bool) (k : Nat) {w : World} {b n : Nat} {t : TypeId} (h : w.rowIs b t n (fillFB bs k)) : (w.setCell ⟨b, k, none⟩ (.bool (bs[k]?.getD false))).rowIs b t n (fillFB bs (k + 1)) := by
  refine (h.set k _).congr fun i hi => ?_
  unfold fillFB
  by_cases e : i = k
  · subst e; rw [if_pos rfl, if_pos (by omega)]
  · rw [if_neg e]
    by_cases e2 : i < k
    · rw [if_pos e2, if_pos (by omega)]
    · rw [if_neg e2, if_neg (by omega)]
theorem bools_snoc (zs : List Bool) (k : Nat) (h : k < zs.length) : bools (zs.take (k + 1)) = bools (zs.take k) ++ [.bool (zs[k]?.getD false)] := by
  unfold bools
  rw [List.take_succ_eq_append_getElem h, List.map_append]
  simp [h]
theorem app_stepB {w wr w1 : World} {o : Obj} {t : TypeId} {v : Value} {k : Nat} {xs : List Value} (hext : Ext w wr) (hown : wr.ownsRow w.heap.size t 1 v k xs) (hg : (wr.alloc o).grownBy w1 v.ownBlock) : Ext w w1 :=
  (Below.alloc hext hext.size o).grown hg (by have := hext.size; simp; omega) (fun j hj => (hown.lt j hj).1)
theorem one_cell_atB (w : World) (o : Value) (t : TypeId) : ∀ (j : Nat) (u : Value), [o][j]? = some u → (w.alloc (.cells #[o] t)).cell? ((⟨w.heap.size, 0, none⟩ : Addr).add j) = some u := by
  intro j u hj
  match j, hj with
  | 0, hj => simp at hj; subst hj; simp [Addr.add]
set_option maxHeartbeats 400000 in
theorem c_impl_BitsOfHash (key salt n : Int) (w : World) : Calls Try.prog 29 #[.int .i64 key, .int .i64 salt, .int .i64 n] w (RetSB 4 (bitsV key salt n).length (bools (bitsV key salt n)) (bitsB key salt n) w) := by
  cases hb : keyB key && keyB salt
  · have HB := Lib.hid hb
    have hB : bitsB key salt n = false := by unfold bitsB; rw [hb]; rfl
    rw [bitsV_no hB, hB]
    clear hb hB
    go_enter Try.func29, Try.ntmps29
    go_wp2_with (go_at_call 23; refine (c_impl_HashOf_of key salt _ HB.out (hashV_no HB.out)).mono ?_; rintro e w' ⟨rfl, rfl⟩)
    go_ret2
    exact RetSB.nil _ _
  · obtain ⟨hk, hs⟩ := both_yes hb
    have HB := Lib.hid hb
    cases hn : inB 0 n 32
    · have hB : bitsB key salt n = false := by unfold bitsB; rw [hn]; simp
      rw [bitsV_no hB, hB]
      have hn' := inB_ofno' hn
      by_cases h1 : n < 0
      · clear hb hB hn hn'
        go_enter Try.func29, Try.ntmps29
        go_wp2_with (go_at_call 23; refine (c_impl_HashOf_of key salt _ HB.out (hashV_yes hk hs)).mono ?_; rintro e w' ⟨rfl, rfl⟩)
        go_ret2
        exact RetSB.nil _ _
      · have h2 : 32 < n := by omega
        clear hb hB hn hn' h1
        go_enter Try.func29, Try.ntmps29
        go_wp2_with (go_at_call 23; refine (c_impl_HashOf_of key salt _ HB.out (hashV_yes hk hs)).mono ?_; rintro e w' ⟨rfl, rfl⟩)
        go_ret2
        exact RetSB.nil _ _
    · obtain ⟨n1, n2⟩ := inB_of' hn
      obtain ⟨m, rfl⟩ := Int.eq_ofNat_of_zero_le n1
      have hB : bitsB key salt m = true := by unfold bitsB; rw [hb, hn]; rfl
      rw [bitsV_yes hB, hB, bitsZ_length]
      obtain ⟨h, hh⟩ : ∃ h, hashN key salt = h := ⟨_, rfl⟩
      have hhl := hashN_lt key salt
      have HV := Lib.hid (show hashV key salt = (h : Int) by rw [hashV_yes hk hs, hh])
      rw [hh] at hhl ⊢
      have hmk := run_make_row' (P := Try.prog) 35 4 (.bool false) 1 Try.underlying35 info_bool rfl .i64 .i64 m (by omega) (by omega)
      clear hb hB hn hh hk hs
      go_enter Try.func29, Try.ntmps29
      go_wp2_with (go_at_call 23; refine (c_impl_HashOf_of key salt _ HB.out HV.out).mono ?_; rintro e w' ⟨rfl, rfl⟩)
      go_loopw [32] (fun i wr => ∃ k : Nat, k ≤ m ∧ i = .int .i64 k ∧ wr.rowIs w.heap.size 4 m (fillFB (bitsZ h m) k) ∧ Ext w wr) (fun i _ => m - (intOf i).toNat)
      case atStart => exact ⟨0, Nat.zero_le _, rfl, (World.rowIs_made _ _ _ _).congr fun i _ => rfl, Ext.alloc _ _⟩
      case round =>
        obtain ⟨k, hk, rfl, hrow, hext⟩ := hrel
        by_cases hlt : k < m
        · have hcur := hrow.cell hlt
          have hfro := hrow.frozen k
          have HF := Lib.hid (fillFB_step (bitsZ h m) k hrow)
          have HE := Lib.hid (fun v : Value => show Ext w (wr.setCell ⟨w.heap.size, k, none⟩ v) from Below.setCell hext (Nat.le_refl _) _)
          have HG := Lib.hid (bitsZ_get h m k hlt)
          have hd : (31 - (k : Int)).toNat = 31 - k := by omega
          have hmn : min (31 - k) 64 = 31 - k := by omega
          clear hrow hext
          go_wp2
          go_roundw
          case rel => exact ⟨k + 1, by omega, by go_num, by have := HF.out; rw [HG.out] at this; exact this, HE.out _⟩
          case measure => simp [intOf]; omega
        · obtain rfl : k = m := by omega
          have HF := Lib.hid hrow
          have HE := Lib.hid hext
          clear hrow hext
          go_wp2
          go_ret2
          exact ⟨_, _, rfl, own_made (by rw [bools_length, bitsZ_length]) (Nat.le_refl _) HF.out (fun i hi => by rw [bools_get _ i (by rw [bitsZ_length]; exact hi)]; unfold fillFB; rw [if_pos hi]), HE.out⟩
set_option maxHeartbeats 400000 in
theorem c_spec_BitsOfHash (key salt n : Int) (w : World) : Calls Try.prog 28 #[.int .i64 key, .int .i64 salt, .int .i64 n] w (RetSB 4 (bitsV key salt n).length (bools (bitsV key salt n)) (bitsB key salt n) w) := by
  cases hb : keyB key && keyB salt
  · have HB := Lib.hid hb
    have hB : bitsB key salt n = false := by unfold bitsB; rw [hb]; rfl
    rw [bitsV_no hB, hB]
    clear hb hB
    go_enter Try.func28, Try.ntmps28
    go_wp2_with (go_at_call 47; refine (c_spec_l02Both_of key salt _ HB.out).mono ?_; rintro e w' ⟨rfl, rfl⟩)
    go_ret2
    exact RetSB.nil _ _
  · obtain ⟨hk, hs⟩ := both_yes hb
    have HB := Lib.hid hb
    cases hn : inB 0 n 32
    · have hB : bitsB key salt n = false := by unfold bitsB; rw [hn]; simp
      rw [bitsV_no hB, hB]
      have HN := Lib.hid hn
      clear hb hB hn
      go_enter Try.func28, Try.ntmps28
      go_wp2_with (first | (go_at_call 47; refine (c_spec_l02Both_of key salt _ HB.out).mono ?_; rintro e w' ⟨rfl, rfl⟩) | (go_at_call 51; refine (c_l00In_of _ _ _ _ HN.out).mono ?_; rintro e w' ⟨rfl, rfl⟩))
      go_ret2
      exact RetSB.nil _ _
    · obtain ⟨n1, n2⟩ := inB_of' hn
      obtain ⟨m, rfl⟩ := Int.eq_ofNat_of_zero_le n1
      have hB : bitsB key salt m = true := by unfold bitsB; rw [hb, hn]; rfl
      rw [bitsV_yes hB, hB, bitsZ_length]
      have HN := Lib.hid hn
      obtain ⟨h, hh⟩ : ∃ h, hashN key salt = h := ⟨_, rfl⟩
      have hhl := hashN_lt key salt
      have HV := Lib.hid (show ((hashN key salt : Nat) : Int) = (h : Int) by rw [hh])
      have HK := Lib.hid hk
      have HS := Lib.hid hs
      rw [hh] at hhl ⊢
      obtain ⟨i0, hi, hz0, hz1, hz2⟩ := info_parts info_bool
      clear hb hB hn hh hk hs
      go_enter Try.func28, Try.ntmps28
      go_wp2_with (first | (go_at_call 47; refine (c_spec_l02Both_of key salt _ HB.out).mono ?_; rintro e w' ⟨rfl, rfl⟩) | (go_at_call 51; refine (c_l00In_of _ _ _ _ HN.out).mono ?_; rintro e w' ⟨rfl, rfl⟩) | (go_at_call 48; refine (c_spec_l02Hash_of key salt _ _ HK.out HS.out HV.out).mono ?_; rintro e w' ⟨rfl, rfl⟩))
      go_loopw [9, 10] (fun v i wr => ∃ k : Nat, k ≤ m ∧ i = .int .i64 k ∧ wr.ownsRow w.heap.size 4 1 v k (bools ((bitsZ h m).take k)) ∧ Ext w wr) (fun _ i _ => m - (intOf i).toNat)
      case atStart => exact ⟨0, Nat.zero_le _, rfl, World.ownsRow_made _ _ _ (Nat.le_refl _) (Nat.zero_le _) rfl, Ext.alloc _ _⟩
      case round =>
        obtain ⟨k, hk, rfl, hown, hext⟩ := hrel
        have HO := Lib.hid hown
        have HE := Lib.hid hext
        by_cases hlt : k < m
        · have HT := Lib.hid (bools_snoc (bitsZ h m) k (by rw [bitsZ_length]; exact hlt))
          have HG := Lib.hid (bitsZ_get h m k hlt)
          have hd : (31 - (k : Int)).toNat = 31 - k := by omega
          have hmn : min (31 - k) 64 = 31 - k := by omega
          clear hown hext
          go_wp2_with (at_builtin; refine wpList_append_own _ rfl _ _ 35 rfl w.heap.size 4 i0 (.bool false) 1 1 Try.underlying35 hi hz0 hz1 hz2 rfl (by decide) _ _ _ rfl (HO.out.alloc _) ⟨_, 0, none⟩ 1 1 [.bool (bitB h k)] rfl rfl ?c1 ?c2 ?c3 ?c4 ?c5 ?_)
          case c1 => exact one_cell_atB _ _ _
          case c2 => intro u hu; simp at hu; subst hu; rfl
          case c3 => unfold maxLen; omega
          case c4 => omega
          case c5 => have := HE.out.size; simp; omega
          intro v' w1 hown' hgrow _
          have HO' := Lib.hid hown'
          have HE' := Lib.hid (app_stepB HE.out HO.out hgrow)
          clear hown' hgrow
          go_wp2
          go_roundw
          case rel => exact ⟨k + 1, by omega, by go_num, by rw [HT.out, HG.out]; exact HO'.out, HE'.out⟩
          case measure => simp [intOf]; omega
        · obtain rfl : k = m := by omega
          obtain ⟨a', c', hv, ho⟩ := Own.of_row (e := 0) HO.out
          subst hv
          have HO' := Lib.hid ho
          clear ho hown hext
          go_wp2
          go_ret2
          exact ⟨_, _, rfl, by have := HO'.out; rw [List.take_of_length_le (by rw [bitsZ_length]; exact Nat.le_refl _)] at this; exact this, HE.out⟩
end Go.Proofs.Ytdbllnmhlfkhbaa
