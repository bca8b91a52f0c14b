/- MeetingsOf: what both sides answer. -/
import Derived.Test.YtdbllnmhlfkhbabSpr
import Derived.Maps.OwnSet
import Derived.Deep.RegionWith
namespace Go.Proofs.Ytdbllnmhlfkhbab
open Go.ChangeShapes Go.WideShapes Go.ChangeAt Go.RowKit Go.Maps Go.WideMaps
set_option linter.unusedVariables false
def sameIn (f : Nat → Nat) (i k : Nat) : Bool := (List.range k).any fun j => f j == f i
def meets (f : Nat → Nat) : Nat → Nat
  | 0 => 0
  | n + 1 => meets f n + if sameIn f n n then 1 else 0
theorem meets_le (f : Nat → Nat) : ∀ n, meets f n ≤ n
  | 0 => Nat.le_refl _
  | n + 1 => by have := meets_le f n; unfold meets; split <;> omega
theorem sameIn_zero (f : Nat → Nat) (i : Nat) : sameIn f i 0 = false := rfl
theorem sameIn_succ (f : Nat → Nat) (i k : Nat) : sameIn f i (k + 1) = (sameIn f i k || f k == f i) := by
  unfold sameIn; rw [List.range_succ, List.any_append]; simp
theorem sameIn_yes {f : Nat → Nat} {i k n : Nat} (hk : k < n) (h : f k = f i) : sameIn f i n = true := by
  unfold sameIn; rw [List.any_eq_true]; exact ⟨k, List.mem_range.2 hk, by simpa using h⟩
theorem sameIn_no {f : Nat → Nat} {i k : Nat} (h0 : sameIn f i k = false) (h : f k ≠ f i) : sameIn f i (k + 1) = false := by
  rw [sameIn_succ, h0]; simpa using h
theorem meets_yes {f : Nat → Nat} {n : Nat} (h : sameIn f n n = true) : meets f (n + 1) = meets f n + 1 := by
  rw [meets, h, if_pos rfl]
theorem meets_no {f : Nat → Nat} {n : Nat} (h : sameIn f n n = false) : meets f (n + 1) = meets f n := by
  rw [meets, h]; rfl
def litOf (x : Nat) : Lit := .int .i64 (x : Int)
def metKeys (f : Nat → Nat) (k : Nat) : List Lit := (List.range k).map fun j => litOf (f j)
def metSet (f : Nat → Nat) (k : Nat) : DataW Unit := setOf (.lit (.bool true)) (metKeys f k)
theorem metSet_zero (f : Nat → Nat) : metSet f 0 = .map [] := rfl
theorem metSet_succ (f : Nat → Nat) (k : Nat) : metSet f (k + 1) = (metSet f k).put (litOf (f k)) (.lit (.bool true)) := by
  unfold metSet
  rw [← setOf_snoc]
  unfold metKeys
  rw [List.range_succ, List.map_append]
  rfl
theorem metKeys_lit (f : Nat → Nat) (k : Nat) : ∀ x ∈ metKeys f k, WideAt.IsKeyLit x := by
  intro x hx
  obtain ⟨j, _, rfl⟩ := List.mem_map.1 hx
  trivial
theorem sameKey_lit (a b : Nat) : (litOf a).sameKey (litOf b) = (a == b) := by
  by_cases e : a = b
  · subst e; simp [WideAt.sameKey_self (show WideAt.IsKeyLit (litOf a) from trivial)]
  · rw [sameKey_ne]
    · simpa using e
    · intro h
      unfold litOf at h
      injection h with _ h
      exact e (by omega)
theorem has_metSet (f : Nat → Nat) (k i : Nat) : has (metSet f k) (litOf (f i)) = sameIn f i k := by
  unfold metSet
  rw [has_setOf _ _ _ (metKeys_lit f k)]
  unfold metKeys sameIn
  rw [List.any_map]
  congr 1
  funext j
  exact sameKey_lit _ _
theorem size_metSet (f : Nat → Nat) : ∀ k, Maps.size (metSet f k) + meets f k = k
  | 0 => rfl
  | k + 1 => by
    have ih := size_metSet f k
    rw [metSet_succ, size_put (show Tidy (metSet f k) from tidy_setOf _ _ (metKeys_lit f k)), has_metSet]
    cases h : sameIn f k k
    · rw [meets_no h]; simp; omega
    · rw [meets_yes h]; simp; omega
def belAt (zs : List Int) (salt : Int) (m i : Nat) : Nat := belowN (zs[i]?.getD 0) salt m
def meetB (zs : List Int) (salt n : Int) : Bool := keysB zs && keyB salt && inB 1 n 4294967296
def meetV (zs : List Int) (salt n : Int) : Int := if meetB zs salt n then ((meets (belAt zs salt n.toNat) zs.length : Nat) : Int) else 0
theorem meetV_yes {zs : List Int} {salt : Int} {m : Nat} (h : meetB zs salt m = true) : meetV zs salt m = ((meets (belAt zs salt m) zs.length : Nat) : Int) := by unfold meetV; rw [h, if_pos rfl]; simp
theorem meetV_no {zs : List Int} {salt n : Int} (h : meetB zs salt n = false) : meetV zs salt n = 0 := by unfold meetV; rw [h]; rfl
theorem meetB_1 {zs : List Int} {salt n : Int} (h : keysB zs = false) : meetB zs salt n = false := by unfold meetB; rw [h]; rfl
theorem meetB_2 {zs : List Int} {salt n : Int} (h : keyB salt = false) : meetB zs salt n = false := by unfold meetB; rw [h]; simp
theorem meetB_3 {zs : List Int} {salt n : Int} (h : inB 1 n 4294967296 = false) : meetB zs salt n = false := by unfold meetB; rw [h]; simp
theorem meetB_mk {zs : List Int} {salt n : Int} (h1 : keysB zs = true) (h2 : keyB salt = true) (h3 : inB 1 n 4294967296 = true) : meetB zs salt n = true := by unfold meetB; rw [h1, h2, h3]; rfl
theorem wf_litOf {y : Nat} (h : y < 4294967296) : (Lit.int .i64 (y : Int)).wf = true := by
  have h1 : IntKind.i64.min = -9223372036854775808 := by decide
  have h2 : IntKind.i64.max = 9223372036854775807 := by decide
  simp [Lit.wf, h1, h2]
  omega
theorem metKeyed : Keyed Try.prog 2 := int_keyed Try.underlying2
theorem metKey {y : Nat} (h : y < 4294967296) : keyOf Try.prog 2 (.int .i64 (y : Int)) = some (litOf y) := keyOf_int_mk Try.underlying2 (wf_litOf h)
set_option maxHeartbeats 1000000 in
theorem c_impl_MeetingsOf (a : Option Addr) (n0 cap : Nat) (zs : List Int) (salt n : Int) (w : World) (hm : n0 ≤ maxLen) (h : Reads w a n0 (ints zs)) :
    Calls Try.prog 29 #[.slice a n0 cap, .int .i64 salt, .int .i64 n] w fun e w' => e = .returned (.tuple #[.int .i64 (meetV zs salt n), .bool (meetB zs salt n)]) ∧ Ext w w' := by
  have H := Lib.hid h
  cases hk : keysB zs
  · have HK := Lib.hid hk
    rw [meetV_no (meetB_1 hk), meetB_1 hk]
    clear hk h
    go_enter Try.func29, Try.ntmps29
    go_wp2_with (go_at_call 49; refine (c_impl_AreKeys_of _ _ _ zs _ HK.out hm H.out).mono ?_; rintro e w' ⟨rfl, rfl⟩)
    go_ret2
    exact ⟨rfl, Ext.refl _⟩
  · cases hs : keyB salt
    · have HK := Lib.hid hk
      have HS := Lib.hid hs
      rw [meetV_no (meetB_2 hs), meetB_2 hs]
      clear hk hs h
      go_enter Try.func29, Try.ntmps29
      go_wp2_with (first | (go_at_call 49; refine (c_impl_AreKeys_of _ _ _ zs _ HK.out hm H.out).mono ?_; rintro e w' ⟨rfl, rfl⟩) | (go_at_call 60; refine (c_impl_IsKey_at salt _ HS.out).mono ?_; rintro e w' ⟨rfl, rfl⟩))
      go_ret2
      exact ⟨rfl, Ext.refl _⟩
    · have HK := Lib.hid hk
      have HS := Lib.hid hs
      cases hn : inB 1 n 4294967296
      · rw [meetV_no (meetB_3 hn), meetB_3 hn]
        have hn' := inB_ofno hn
        by_cases h1 : n < 1
        · clear hk hs h hn hn'
          go_enter Try.func29, Try.ntmps29
          go_wp2_with (first | (go_at_call 49; refine (c_impl_AreKeys_of _ _ _ zs _ HK.out hm H.out).mono ?_; rintro e w' ⟨rfl, rfl⟩) | (go_at_call 60; refine (c_impl_IsKey_at salt _ HS.out).mono ?_; rintro e w' ⟨rfl, rfl⟩))
          go_ret2
          exact ⟨rfl, Ext.refl _⟩
        · have h2 : 4294967296 < n := by omega
          clear hk hs h hn hn' h1
          go_enter Try.func29, Try.ntmps29
          go_wp2_with (first | (go_at_call 49; refine (c_impl_AreKeys_of _ _ _ zs _ HK.out hm H.out).mono ?_; rintro e w' ⟨rfl, rfl⟩) | (go_at_call 60; refine (c_impl_IsKey_at salt _ HS.out).mono ?_; rintro e w' ⟨rfl, rfl⟩))
          go_ret2
          exact ⟨rfl, Ext.refl _⟩
      · obtain ⟨n1, n2⟩ := inB_of hn
        obtain ⟨m, rfl⟩ := Int.eq_ofNat_of_zero_le (show (0 : Int) ≤ n from by omega)
        have hB := meetB_mk hk hs hn
        rw [meetV_yes hB, hB]
        have hzl := keysB_len hk
        have hmm := @run_makeMap Try.prog
        obtain ⟨hzn, hr⟩ := h.int
        have HR := Lib.hid hr
        clear hk hs h hn hr hB
        go_enter Try.func29, Try.ntmps29
        go_wp2_with (first | (go_at_call 49; refine (c_impl_AreKeys_of _ _ _ zs _ HK.out hm H.out).mono ?_; rintro e w' ⟨rfl, rfl⟩) | (go_at_call 60; refine (c_impl_IsKey_at salt _ HS.out).mono ?_; rintro e w' ⟨rfl, rfl⟩))
        go_loopw [30] (fun i wr => ∃ k : Nat, k ≤ n0 ∧ i = .int .i64 k ∧ wr.ownsMap Try.prog 2 (plainElem Try.prog 4) w.heap.size k (metSet (belAt zs salt m) k) ∧ Ext w wr) (fun i _ => n0 - (intOf i).toNat)
        case atStart => exact ⟨0, Nat.zero_le _, rfl, by rw [metSet_zero]; exact World.ownsMap_made _ _ _ _, Ext.alloc _ _⟩
        case round =>
          obtain ⟨k, hk, rfl, hown, hext⟩ := hrel
          by_cases hlt : k < n0
          · rcases HR.out with h0 | ⟨b, off, rfl, hc⟩
            · omega
            have hcell : wr.cell? ⟨b, off + k, none⟩ = some (.int .i64 (zs[k]?.getD 0)) := by
              have h1 := hc k hlt
              rw [hext.cell b _ (World.block_lt_of_cell? w ⟨b, off + k, none⟩ h1)]; exact h1
            obtain ⟨x, hx⟩ : ∃ x, zs[k]?.getD 0 = x := ⟨_, rfl⟩
            have HX := Lib.hid (show keyB x = true by rw [← hx]; exact keysB_at HK.out (by omega))
            obtain ⟨y, hy⟩ : ∃ y, belowN x salt m = y := ⟨_, rfl⟩
            have HY := Lib.hid hy
            have hym : y < m := by rw [← hy]; exact belowN_lt _ _ _ (by omega)
            have HM := Lib.hid (metKey (show y < 4294967296 by omega))
            have HB := Lib.hid (show belAt zs salt m k = y by unfold belAt; rw [hx, hy])
            have HS2 := Lib.hid (show metSet (belAt zs salt m) (k + 1) = (metSet (belAt zs salt m) k).put (litOf y) (.lit (.bool true)) by rw [metSet_succ, HB.out])
            have HO := Lib.hid hown
            have HE := Lib.hid hext
            have hz30 : k < maxLen := by unfold maxLen; omega
            rw [hx] at hcell
            clear hc hown hext hx hy
            go_wp2_with (first
              | (go_at_call 61; refine (c_impl_hashBelow_of x salt m y _ HX.out HS.out (by omega) HY.out).mono ?_; rintro e w' ⟨rfl, rfl⟩)
              | (at_mapUpdate; refine wpList_mapUpdate_own _ rfl _ _ _ 62 rfl 2 4 metKeyed Try.underlying62 (plainElem (H := Unit) Try.prog 4) w.heap.size k _ rfl HO.out hz30 _ _ _ rfl rfl HM.out _ [] (plainElem_bool Try.underlying4 true) ?_; intro w1 hown1 hgrow1; have HO1 := Lib.hid hown1; have HG1 := Lib.hid hgrow1; clear hown1 hgrow1))
            go_roundw
            case rel => exact ⟨k + 1, by omega, by go_num, by rw [HS2.out]; exact HO1.out, Below.grown HE.out HG1.out HE.out.size (fun j hj => by cases hj; exact Nat.le_refl _)⟩
            case measure => simp [intOf]; omega
          · obtain rfl : k = n0 := by omega
            obtain ⟨z, hz⟩ : ∃ z, Maps.size (metSet (belAt zs salt m) k) = z := ⟨_, rfl⟩
            have hsum := size_metSet (belAt zs salt m) k
            rw [hz] at hsum
            obtain ⟨q, hq⟩ : ∃ q, meets (belAt zs salt m) k = q := ⟨_, rfl⟩
            rw [hq] at hsum
            have HQ := Lib.hid (show meets (belAt zs salt m) zs.length = q by rw [hzn]; exact hq)
            have HO := Lib.hid hown
            have HE := Lib.hid hext
            have HZ := Lib.hid hz
            clear hown hext hz hq
            go_wp2_with (at_len; refine wpList_len_own _ rfl _ 62 rfl 2 4 Try.underlying62 _ w.heap.size k _ rfl HO.out ?_; rw [HZ.out])
            go_ret2
            exact ⟨by rw [HQ.out]; go_num, HE.out⟩
end Go.Proofs.Ytdbllnmhlfkhbab
