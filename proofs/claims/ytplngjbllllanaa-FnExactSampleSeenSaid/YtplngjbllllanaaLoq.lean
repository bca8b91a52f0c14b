/- The iterator over the last ones of each index. -/
import Derived.RangeFuncNested
import Derived.RangeFuncBound
import Derived.RangeFuncCalls
import Derived.RangeFuncLeaves
import Derived.Shelf.Abstract
import Derived.Shelf.RegionOpen
import Derived.WalkKit
import Derived.OwnWalkIn
import Derived.TacticsInMore
import Derived.LoopNIn
import Derived.LoopIn
import Derived.Test.YtplngjbllllanaaLop
namespace Go.Proofs.Ytplngjbllllanaa
open Go.ChangeShapes Go.WideShapes Go.ChangeAt Go.RowKit Go.Shelf
set_option linter.unusedVariables false
attribute [local go_sem] Oper.semAt_some
/-- a place below n -/
abbrev At (n : Nat) := { k : Nat // k < n }
def lastV (b off long : Nat) (k : Nat) : Value := .slice (some ⟨b, off + (k + 1 - long), none⟩) (k + 1 - (k + 1 - long)) (k + 1 - (k + 1 - long))
def lastE (b off long n : Nat) (x : At n) : Array Value := #[.int .i64 (x.1 : Int), lastV b off long x.1]
def uptoA (n : Nat) : (k : Nat) → k ≤ n → List (At n)
  | 0, _ => []
  | k + 1, h => uptoA n k (by omega) ++ [⟨k, by omega⟩]
theorem uptoA_length (n : Nat) : ∀ (k : Nat) (h : k ≤ n), (uptoA n k h).length = k
  | 0, _ => rfl
  | k + 1, h => by unfold uptoA; rw [List.length_append, uptoA_length n k]; rfl
theorem uptoA_mem (n : Nat) : ∀ (k : Nat) (h : k ≤ n) (i : Nat) (hi : i < k), (⟨i, by omega⟩ : At n) ∈ uptoA n k h
  | 0, _, i, hi => absurd hi (Nat.not_lt_zero _)
  | k + 1, h, i, hi => by
    unfold uptoA
    by_cases e : i = k
    · subst e; exact List.mem_append.2 (.inr (by simp))
    · exact List.mem_append.2 (.inl (uptoA_mem n k (by omega) i (by omega)))
/-- all below m but block g lies as it lay -/
def KpG (m g : Nat) (W W' : World) : Prop := W.heap.size ≤ W'.heap.size ∧ ∀ k, k < m → k ≠ g → W'.heap[k]? = W.heap[k]?
theorem KpG.trans {m g : Nat} {A B C : World} (h : KpG m g A B) (k : KpG m g B C) : KpG m g A C := ⟨Nat.le_trans h.1 k.1, fun j hj hg => (k.2 j hj hg).trans (h.2 j hj hg)⟩
theorem KpG.refl (m g : Nat) (W : World) : KpG m g W W := ⟨Nat.le_refl _, fun _ _ _ => rfl⟩
theorem KpG.cell {m g : Nat} {W W' : World} (h : KpG m g W W') {b o : Nat} (hb : b < m) (hg : b ≠ g) {v : Value} (hc : W.cell? ⟨b, o, none⟩ = some v) : W'.cell? ⟨b, o, none⟩ = some v := by
  rw [World.cell?_of_block (w := W) (h.2 b hb hg)]; exact hc
theorem c_lastOnes (a : Option Addr) (n cap : Nat) (long : Int) (w : World) :
    Calls Try.prog 99 #[.slice a n cap, .int .i64 long] w fun e w' => e = .returned (.func (.func 153) #[] #[.pointer (some ⟨w.heap.size, 0, none⟩), .pointer (some ⟨w.heap.size + 1, 0, none⟩)]) ∧ w' = (w.alloc (.cells #[.slice a n cap] 40)).alloc (.cells #[.int .i64 long] 2) := by
  go_enter Try.func99, Try.ntmps99
  go_wp2
  go_ret
  exact ⟨rfl, rfl⟩
set_option maxRecDepth 100000 in
set_option maxHeartbeats 2000000 in
theorem lastOnes1_in (F : Fence) (N : Nat) (hF : F.fn 153) (hro : F.round = none) (hN : 1 ≤ N) (l Bs Bl m g b off n cap long : Nat) (hn : n ≤ 128) (hnc : n ≤ cap) (hl1 : 1 ≤ long) (hl2 : long ≤ 128) (hbs : Bs < m) (hbl : Bl < m) (gs : Bs ≠ g) (gl : Bl ≠ g) (J Jx : List (At n) → World → Prop)
    (hY : ∀ pre x W, J pre W → pre.length < n → YieldAt F (N - 1) Try.prog l (lastE b off long n x) W fun e W' =>
      (e = .returned (.bool true) ∧ J (pre ++ [x]) W' ∧ KpG m g W W') ∨ (e = .returned (.bool false) ∧ Jx (pre ++ [x]) W'))
    (W : World) (hBs : W.cell? ⟨Bs, 0, none⟩ = some (.slice (some ⟨b, off, none⟩) n cap)) (hBl : W.cell? ⟨Bl, 0, none⟩ = some (.int .i64 (long : Int))) (h0 : J [] W) :
    CallsIn F N Try.prog 153 #[.func (.yield l) #[] #[], .pointer (some ⟨Bs, 0, none⟩), .pointer (some ⟨Bl, 0, none⟩)] W fun e W' => (∃ v, e = .returned v) ∧
      ((∃ ys, ys = uptoA n n (Nat.le_refl _) ∧ J ys W') ∨ (∃ pre, (∃ k h, pre = uptoA n k h) ∧ Jx pre W')) := by
  refine callsIn_of_wp Try.func153 rfl hF ?_ hro
  simp only [Try.ntmps153, List.size_toArray, List.length_cons, List.length_nil, Nat.reduceAdd, Nat.reduceSub, Array.replicate_succ, Array.replicate_zero, List.push_toArray, List.append_toArray, List.nil_append, List.cons_append]
  gi_wp2
  gi_loopw [9] (fun i wr => ∃ (k : Nat) (h : k ≤ n), i = .int .i64 k ∧ J (uptoA n k h) wr ∧ KpG m g W wr)
    (fun i _ => n - (intOf i).toNat)
  case atStart => exact ⟨0, Nat.zero_le _, rfl, h0, KpG.refl _ _ _⟩
  case round =>
    obtain ⟨k, hk, rfl, hJs, hnx⟩ := hrel
    by_cases hlt : k < n
    · obtain ⟨fn, tmps, assign, body, hy, hR⟩ := hY _ ⟨k, hlt⟩ wr hJs (by rw [uptoA_length]; exact hlt)
      have c1 := hnx.cell hbs gs hBs
      have c2 := hnx.cell hbl gl hBl
      obtain ⟨f, hf⟩ : ∃ f, k + 1 - long = f := ⟨_, rfl⟩
      obtain ⟨d, hd⟩ : ∃ d, k + 1 - f = d := ⟨_, rfl⟩
      have i1 : (k : Int) < (n : Int) := by omega
      have i2 : max ((k : Int) + 1 - (long : Int)) 0 = (f : Int) := by omega
      have i3 : (if ((k : Int) + 1 - (long : Int)) < 0 then (0 : Int) else (k : Int) + 1 - (long : Int)) = (f : Int) := by omega
      unfold lastE lastV at hy
      dsimp only at hy
      rw [hf, hd] at hy
      gi_wp2
      refine hR.mono ?_
      rintro e W3 (⟨rfl, hJ3, hk3⟩ | ⟨rfl, hJx3⟩)
      · gi_wp2
        go_roundw
        case rel => exact ⟨k + 1, by omega, by first | rfl | simp | go_num, hJ3, hnx.trans hk3⟩
        case measure => simp [intOf]; omega
      · gi_wp2
        refine bodyPost_ret (results_none rfl _ _ _) rfl ?_
        exact ⟨⟨_, rfl⟩, .inr ⟨_, ⟨k + 1, by omega, rfl⟩, hJx3⟩⟩
    · obtain rfl : k = n := by omega
      gi_wp2
      go_end0
      exact ⟨⟨_, rfl⟩, .inl ⟨_, rfl, hJs⟩⟩
theorem lastOnes_stops (F : Fence) (N : Nat) (hF : F.fn 153) (hro : F.round = none) (hN : 1 ≤ N) (Bs Bl m g b off n cap long : Nat) (hn : n ≤ 128) (hnc : n ≤ cap) (hl1 : 1 ≤ long) (hl2 : long ≤ 128) (hbs : Bs < m) (hbl : Bl < m) (gs : Bs ≠ g) (gl : Bl ≠ g)
    (w : World) (hBs : w.cell? ⟨Bs, 0, none⟩ = some (.slice (some ⟨b, off, none⟩) n cap)) (hBl : w.cell? ⟨Bl, 0, none⟩ = some (.int .i64 (long : Int))) :
    SeqStopsK F N Try.prog 153 #[.pointer (some ⟨Bs, 0, none⟩), .pointer (some ⟨Bl, 0, none⟩)] (lastE b off long n) (KpG m g) (fun ys => ys = uptoA n n (Nat.le_refl _)) (fun pre => ∃ k h, pre = uptoA n k h) n w := fun l J Jx W hW _ _ hY h0 =>
  lastOnes1_in F N hF hro hN l Bs Bl m g b off n cap long hn hnc hl1 hl2 hbs hbl gs gl J Jx hY W
    ((hW.cell (p := ⟨Bs, 0, none⟩) (World.block_lt_of_cell? w ⟨Bs, 0, none⟩ hBs)).trans hBs) ((hW.cell (p := ⟨Bl, 0, none⟩) (World.block_lt_of_cell? w ⟨Bl, 0, none⟩ hBl)).trans hBl) h0
end Go.Proofs.Ytplngjbllllanaa
