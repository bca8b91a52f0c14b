/- The finger and the houses of a key; the first cell with a number: both sides. -/
import Derived.Test.YtfolflkbpdbkcabOwz
import Derived.Deep.QuietTactic
import Derived.BigQuiet
import Derived.Deep.RegionWith
namespace Go.Proofs.Ytfolflkbpdbkcab
open Go.ChangeShapes Go.WideShapes Go.ChangeAt Go.RowKit
set_option linter.unusedVariables false
theorem i64_xor_nat (a b : Nat) (ha : a < 4294967296) (hb : b < 4294967296) : bits .xor .i64 (a : Int) (b : Int) = ((a ^^^ b : Nat) : Int) := by
  have hx : a ^^^ b < 2 ^ 32 := Nat.xor_lt_two_pow (by omega) (by omega)
  have h1 : (BitVec.ofInt 64 (a : Int)).toNat = a := by
    rw [BitVec.ofInt_natCast, BitVec.toNat_ofNat]; exact Nat.mod_eq_of_lt (by omega)
  have h2 : (BitVec.ofInt 64 (b : Int)).toNat = b := by
    rw [BitVec.ofInt_natCast, BitVec.toNat_ofNat]; exact Nat.mod_eq_of_lt (by omega)
  show IntKind.i64.wrap ((BitVec.ofInt 64 (a : Int) ^^^ BitVec.ofInt 64 (b : Int)).toNat : Int) = _
  rw [BitVec.toNat_xor, h1, h2]
  simp [IntKind.wrap, IntKind.bits, IntKind.signed]
  omega
def fgB (S : Int) (zs : List Int) : Bool := cellsUp S zs 2 8 255
/-- valid fingers -/
structure FgOk (S : Int) (zs : List Int) (m : Nat) : Prop where
  key : keyB S = true
  len : zs.length = 2 * m
  m1 : 1 ≤ m
  m128 : m ≤ 128
  pow : ∃ k, m = 2 ^ k
  up : upB 255 zs = true
theorem fg_ok {S : Int} {zs : List Int} (h : fgB S zs = true) : ∃ m, FgOk S zs m := by
  obtain ⟨h1, h2, h3⟩ := cellsUp_yes h
  obtain ⟨k, hk, e⟩ := doubB_yes h2
  have h4 := (show ∀ k, k < 8 → 2 ^ k ≤ 128 by decide) k hk
  exact ⟨2 ^ k, h1, e, Nat.one_le_two_pow, h4, ⟨k, rfl⟩, h3⟩
/-- the finger of a key, its house, the other one -/
def fingN (key S : Int) : Nat := belowN key S 255 + 1
def houseN (key S : Int) (m : Nat) : Nat := belowN key (saltZ S 1) m
def otherN (x S : Int) (m h : Nat) : Nat := h ^^^ belowN x (saltZ S 2) m
theorem otherN_lt {x S : Int} {m h : Nat} (hm : ∃ k, m = 2 ^ k) (hh : h < m) : otherN x S m h < m := by
  obtain ⟨k, rfl⟩ := hm
  exact Nat.xor_lt_two_pow hh (belowN_lt x _ _ Nat.one_le_two_pow)
theorem fingN_bd (key S : Int) : 1 ≤ fingN key S ∧ fingN key S ≤ 255 := by
  have := belowN_lt key S 255 (by decide)
  unfold fingN; omega
/-- the first cell with a number -/
def firstC (zs : List Int) (x : Int) (c : Nat → Nat) : Nat → Nat → Option Nat
  | 0, _ => none
  | m + 1, k => if zs[c k]?.getD 0 = x then some (c k) else firstC zs x c m (k + 1)
theorem firstC_some {zs : List Int} {x : Int} {c : Nat → Nat} : ∀ (m k j : Nat), k ≤ j → j < k + m → (∀ i, k ≤ i → i < j → zs[c i]?.getD 0 ≠ x) → zs[c j]?.getD 0 = x → firstC zs x c m k = some (c j)
  | 0, k, j, h1, h2, _, _ => by omega
  | m + 1, k, j, h1, h2, h3, h4 => by
    by_cases e : k = j
    · subst e; exact if_pos h4
    · show (if _ then _ else _) = _
      rw [if_neg (h3 k (Nat.le_refl _) (by omega))]
      exact firstC_some m (k + 1) j (by omega) (by omega) (fun i h5 h6 => h3 i (by omega) h6) h4
theorem firstC_none {zs : List Int} {x : Int} {c : Nat → Nat} : ∀ (m k : Nat), (∀ i, k ≤ i → i < k + m → zs[c i]?.getD 0 ≠ x) → firstC zs x c m k = none
  | 0, k, _ => rfl
  | m + 1, k, h => by
    show (if _ then _ else _) = _
    rw [if_neg (h k (Nat.le_refl _) (by omega))]
    exact firstC_none m (k + 1) (fun i h5 h6 => h i (by omega) (by omega))
theorem firstC_lt {zs : List Int} {x : Int} {c : Nat → Nat} {n p : Nat} : ∀ (m k : Nat), (∀ i, k ≤ i → i < k + m → c i < n) → firstC zs x c m k = some p → p < n
  | 0, k, _, h => by cases h
  | m + 1, k, hc, h => by
    change (if _ then _ else _) = _ at h
    split at h
    · cases h; exact hc k (Nat.le_refl _) (by omega)
    · exact firstC_lt m (k + 1) (fun i h5 h6 => hc i (by omega) (by omega)) h
theorem firstC_congr {zs : List Int} {x : Int} {c d : Nat → Nat} : ∀ (m k : Nat), (∀ i, k ≤ i → i < k + m → c i = d i) → firstC zs x c m k = firstC zs x d m k
  | 0, k, _ => rfl
  | m + 1, k, h => by
    show (if _ then _ else _) = (if _ then _ else _)
    rw [h k (Nat.le_refl _) (by omega), firstC_congr m (k + 1) (fun i h5 h6 => h i (by omega) (by omega))]
/-- the cells of houses -/
def houseC (p : Nat → Nat) (i : Nat) : Nat := 2 * p (i / 2) + i % 2
/-- two houses -/
def two (a b : Nat) (j : Nat) : Nat := if j = 0 then a else b
def optI (d : Int) : Option Nat → Int
  | some i => (i : Nat)
  | none => d
/-- the cell of a key -/
def spotO (S : Int) (zs : List Int) (key : Int) (m : Nat) : Option Nat := firstC zs (fingN key S : Nat) (houseC (two (houseN key S m) (otherN (fingN key S : Nat) S m (houseN key S m)))) 4 0
def inFinR (S : Int) (zs : List Int) (key : Int) : Bool × Bool := if fgB S zs && keyB key then ((spotO S zs key (zs.length / 2)).isSome, true) else (false, false)
theorem inFinR_1 {S key : Int} {zs : List Int} (h : fgB S zs = false) : inFinR S zs key = (false, false) := by unfold inFinR; rw [h]; rfl
theorem inFinR_2 {S key : Int} {zs : List Int} (h : keyB key = false) : inFinR S zs key = (false, false) := by unfold inFinR; rw [h, Bool.and_false]; rfl
theorem inFinR_y {S key : Int} {zs : List Int} {m : Nat} (h : fgB S zs = true) (hk : keyB key = true) (hl : zs.length = 2 * m) : inFinR S zs key = ((spotO S zs key m).isSome, true) := by
  unfold inFinR; rw [h, hk, hl, Nat.mul_div_cancel_left m (by decide)]; rfl
def outFinR (S : Int) (zs : List Int) (key : Int) : FV × Bool := if fgB S zs && keyB key then (match spotO S zs key (zs.length / 2) with
  | some p => (⟨S, zs.set p 0⟩, true)
  | none => (FV.no, false)) else (FV.no, false)
theorem outFinR_1 {S key : Int} {zs : List Int} (h : fgB S zs = false) : outFinR S zs key = (FV.no, false) := by unfold outFinR; rw [h]; rfl
theorem outFinR_2 {S key : Int} {zs : List Int} (h : keyB key = false) : outFinR S zs key = (FV.no, false) := by unfold outFinR; rw [h, Bool.and_false]; rfl
theorem outFinR_no {S key : Int} {zs : List Int} {m : Nat} (hl : zs.length = 2 * m) (h : spotO S zs key m = none) : outFinR S zs key = (FV.no, false) := by
  unfold outFinR; rw [hl, Nat.mul_div_cancel_left m (by decide), h]; split <;> rfl
theorem outFinR_y {S key : Int} {zs : List Int} {m p : Nat} (h : fgB S zs = true) (hk : keyB key = true) (hl : zs.length = 2 * m) (hp : spotO S zs key m = some p) : outFinR S zs key = (⟨S, zs.set p 0⟩, true) := by
  unfold outFinR; rw [h, hk, hl, Nat.mul_div_cancel_left m (by decide), hp]; rfl
theorem outFinR_le {S key : Int} {zs rz : List Int} {rS : Int} {rb : Bool} (h : outFinR S zs key = (⟨rS, rz⟩, rb)) : rz.length ≤ 1048576 := by
  unfold outFinR at h
  split at h
  · rename_i hc
    simp only [Bool.and_eq_true] at hc
    obtain ⟨m, ok⟩ := fg_ok hc.1
    have h1 := ok.len
    have h2 := ok.m128
    split at h
    · simp only [Prod.mk.injEq, FV.mk.injEq] at h
      rw [← h.1.2, List.length_set]; omega
    · simp only [Prod.mk.injEq, FV.no, FV.mk.injEq] at h
      rw [← h.1.2]; exact Nat.zero_le _
  · simp only [Prod.mk.injEq, FV.no, FV.mk.injEq] at h
    rw [← h.1.2]; exact Nat.zero_le _
/-- facts that a walk wants of a key -/
theorem spot_lt {S key : Int} {zs : List Int} {m p : Nat} (ok : FgOk S zs m) (h : spotO S zs key m = some p) : p < zs.length := by
  refine firstC_lt 4 0 (fun i _ hi => ?_) h
  have h1 : houseN key S m < m := belowN_lt key _ m ok.m1
  have h2 := otherN_lt (x := (fingN key S : Nat)) (S := S) ok.pow h1
  rw [ok.len]
  unfold houseC two
  split <;> omega
theorem c_impl_housesOf (S : Int) (a : Option Addr) (n cap m : Nat) (w : World) (hn : n = 2 * m) (hm : m ≤ 128) :
    Calls Try.prog 98 #[.agg #[.int .i64 S, .slice a n cap]] w fun e w' => e = .returned (.int .i64 (m : Nat)) ∧ Ext w w' := by
  have hd : (n : Int) / 2 = (m : Int) := by omega
  have hm0 : (0 : Int) ≤ (m : Int) := by omega
  have hm1 : (m : Int) ≤ 128 := by omega
  clear hn
  go_enter Try.func98, Try.ntmps98
  go_wp2
  go_ret
  exact ⟨rfl, (Ext.refl _).stepA _⟩
theorem c_impl_otherHouse (S : Int) (a : Option Addr) (n cap m : Nat) (x : Int) (h y : Nat) (w : World) (hn : n = 2 * m) (hm : m ≤ 128) (hs : keyB S = true) (hx : keyB x = true) (hh : h < 4294967296) (hy : otherN x S m h = y) :
    Calls Try.prog 99 #[.agg #[.int .i64 S, .slice a n cap], .int .i64 x, .int .i64 h] w fun e w' => e = .returned (.int .i64 (y : Nat)) ∧ Ext w w' := by
  obtain ⟨s2, hs2⟩ : ∃ s, saltZ S 2 = s := ⟨_, rfl⟩
  have HS2 := Lib.hid hs2
  have HK2 := Lib.hid (show keyB s2 = true by rw [← hs2]; exact saltZ_key S 2)
  obtain ⟨b, hb⟩ : ∃ b, belowN x s2 m = b := ⟨_, rfl⟩
  have HB := Lib.hid hb
  have hbl : b < 4294967296 := by
    by_cases h1 : 1 ≤ m
    · have := belowN_lt x s2 m h1; omega
    · have h0 : m = 0 := by omega
      rw [← hb, h0]; unfold belowN; rw [Nat.mul_zero, Nat.zero_div]; omega
  have HX := Lib.hid (show bits .xor .i64 (h : Int) (b : Int) = (y : Int) by rw [i64_xor_nat h b hh hbl, ← hy]; unfold otherN; rw [hs2, hb])
  have HS := Lib.hid hs
  have HKX := Lib.hid hx
  have HN := Lib.hid hn
  have BX := Lib.hid (Box.alloc w #[.int .i64 S, .slice a n cap] 41)
  clear hs2 hb hy hs hx hn hbl
  go_enter Try.func99, Try.ntmps99
  go_wp2_with fail
  go_region_held3 (fun w' => w'.cell? ⟨w.heap.size, 0, none⟩ = some (.int .i64 S) ∧ w'.cell? ⟨w.heap.size, 1, none⟩ = some (.slice a n cap)) (first | exact KA | go_keep)
    (first | (go_at_call 98; refine (c_impl_housesOf S a n cap m _ HN.out hm).mono ?_; rintro e u1 ⟨rfl, x1⟩; have EA : Ext (w.alloc (.cells #[.int .i64 S, .slice a n cap] 41)) u1 := Ext.trans (by (repeat (first | assumption | exact Ext.refl _ | (with_reducible refine Ext.stepS ?_ (by first | exact Nat.le_refl _ | (simp; done) | (simp; omega)) _) | (with_reducible refine Ext.stepN ?_ _) | (with_reducible refine Ext.stepD ?_) | (with_reducible refine Ext.stepA ?_ _)))) x1; have EW : Ext w u1 := Ext.trans (by (repeat (first | assumption | exact Ext.refl _ | (with_reducible refine Ext.stepS ?_ (by first | exact Nat.le_refl _ | (simp; done) | (simp; omega)) _) | (with_reducible refine Ext.stepN ?_ _) | (with_reducible refine Ext.stepD ?_) | (with_reducible refine Ext.stepA ?_ _)))) EA; have KA := (BX.out.on EA).two; clear x1) | (go_at_call 92; refine (c_impl_saltAfter_e S 2 s2 _ HS.out (by decide) HS2.out).mono ?_; rintro e w' ⟨rfl, rfl⟩) | (go_at_call 89; refine (c_impl_hashBelow_e x s2 m b _ HKX.out HK2.out (by omega) HB.out).mono ?_; rintro e w' ⟨rfl, rfl⟩))
  all_goals
    go_wp2
    go_outline
    trace_state
    go_ret
    exact ⟨congrArg Ending.returned (congrArg (Value.int IntKind.i64) HX.out), by (repeat (first | assumption | exact Ext.refl _ | (with_reducible refine Ext.stepS ?_ (by first | exact Nat.le_refl _ | (simp; done) | (simp; omega)) _) | (with_reducible refine Ext.stepN ?_ _) | (with_reducible refine Ext.stepD ?_) | (with_reducible refine Ext.stepA ?_ _)))⟩
end Go.Proofs.Ytfolflkbpdbkcab
