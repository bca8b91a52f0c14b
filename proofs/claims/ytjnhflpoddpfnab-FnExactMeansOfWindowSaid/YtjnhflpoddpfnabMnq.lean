/- The iterator over the last ones of each index of a list of floats. -/
import Derived.RangeFuncNested
import Derived.RangeFuncBound
import Derived.RangeFuncCalls
import Derived.RangeFuncLeaves
import Derived.Shelf.Abstract
import Derived.Shelf.RegionOpen
import Derived.WalkKit
import Derived.OwnWalkIn
import Derived.TacticsInMore
import Derived.LoopNIn
import Derived.LoopIn
import Derived.Test.YtjnhflpoddpfnabLoq
namespace Go.Proofs.Ytjnhflpoddpfnab
open Go.ChangeShapes Go.WideShapes Go.ChangeAt Go.RowKit Go.Shelf
set_option linter.unusedVariables false
attribute [local go_sem] Oper.semAt_some
theorem c_lastOnesG (a : Option Addr) (n cap : Nat) (long : Int) (w : World) :
    Calls Try.prog 94 #[.slice a n cap, .int .i64 long] w fun e w' => e = .returned (.func (.func 113) #[] #[.pointer (some ⟨w.heap.size, 0, none⟩), .pointer (some ⟨w.heap.size + 1, 0, none⟩)]) ∧ w' = (w.alloc (.cells #[.slice a n cap] 29)).alloc (.cells #[.int .i64 long] 2) := by
  go_enter Try.func94, Try.ntmps94
  go_wp2
  go_ret
  exact ⟨rfl, rfl⟩
set_option maxRecDepth 100000 in
set_option maxHeartbeats 2000000 in
theorem lastOnesG1_in (F : Fence) (N : Nat) (hF : F.fn 113) (hro : F.round = none) (hN : 1 ≤ N) (l Bs Bl m g b off n cap long : Nat) (hn : n ≤ 128) (hnc : n ≤ cap) (hl1 : 1 ≤ long) (hl2 : long ≤ 128) (hbs : Bs < m) (hbl : Bl < m) (gs : Bs ≠ g) (gl : Bl ≠ g) (J Jx : List (At n) → World → Prop)
    (hY : ∀ pre x W, J pre W → pre.length < n → YieldAt F (N - 1) Try.prog l (lastE b off long n x) W fun e W' =>
      (e = .returned (.bool true) ∧ J (pre ++ [x]) W' ∧ KpG m g W W') ∨ (e = .returned (.bool false) ∧ Jx (pre ++ [x]) W'))
    (W : World) (hBs : W.cell? ⟨Bs, 0, none⟩ = some (.slice (some ⟨b, off, none⟩) n cap)) (hBl : W.cell? ⟨Bl, 0, none⟩ = some (.int .i64 (long : Int))) (h0 : J [] W) :
    CallsIn F N Try.prog 113 #[.func (.yield l) #[] #[], .pointer (some ⟨Bs, 0, none⟩), .pointer (some ⟨Bl, 0, none⟩)] W fun e W' => (∃ v, e = .returned v) ∧
      ((∃ ys, ys = uptoA n n (Nat.le_refl _) ∧ J ys W') ∨ (∃ pre, (∃ k h, pre = uptoA n k h) ∧ Jx pre W')) := by
  refine callsIn_of_wp Try.func113 rfl hF ?_ hro
  simp only [Try.ntmps113, List.size_toArray, List.length_cons, List.length_nil, Nat.reduceAdd, Nat.reduceSub, Array.replicate_succ, Array.replicate_zero, List.push_toArray, List.append_toArray, List.nil_append, List.cons_append]
  gi_wp2
  gi_loopw [9] (fun i wr => ∃ (k : Nat) (h : k ≤ n), i = .int .i64 k ∧ J (uptoA n k h) wr ∧ KpG m g W wr)
    (fun i _ => n - (intOf i).toNat)
  case atStart => exact ⟨0, Nat.zero_le _, rfl, h0, KpG.refl _ _ _⟩
  case round =>
    obtain ⟨k, hk, rfl, hJs, hnx⟩ := hrel
    by_cases hlt : k < n
    · obtain ⟨fn, tmps, assign, body, hy, hR⟩ := hY _ ⟨k, hlt⟩ wr hJs (by rw [uptoA_length]; exact hlt)
      have c1 := hnx.cell hbs gs hBs
      have c2 := hnx.cell hbl gl hBl
      obtain ⟨f, hf⟩ : ∃ f, k + 1 - long = f := ⟨_, rfl⟩
      obtain ⟨d, hd⟩ : ∃ d, k + 1 - f = d := ⟨_, rfl⟩
      have i1 : (k : Int) < (n : Int) := by omega
      have i2 : max ((k : Int) + 1 - (long : Int)) 0 = (f : Int) := by omega
      have i3 : (if ((k : Int) + 1 - (long : Int)) < 0 then (0 : Int) else (k : Int) + 1 - (long : Int)) = (f : Int) := by omega
      unfold lastE lastV at hy
      dsimp only at hy
      rw [hf, hd] at hy
      gi_wp2
      refine hR.mono ?_
      rintro e W3 (⟨rfl, hJ3, hk3⟩ | ⟨rfl, hJx3⟩)
      · gi_wp2
        go_roundw
        case rel => exact ⟨k + 1, by omega, by first | rfl | simp | go_num, hJ3, hnx.trans hk3⟩
        case measure => simp [intOf]; omega
      · gi_wp2
        refine bodyPost_ret (results_none rfl _ _ _) rfl ?_
        exact ⟨⟨_, rfl⟩, .inr ⟨_, ⟨k + 1, by omega, rfl⟩, hJx3⟩⟩
    · obtain rfl : k = n := by omega
      gi_wp2
      go_end0
      exact ⟨⟨_, rfl⟩, .inl ⟨_, rfl, hJs⟩⟩
theorem lastOnesG_stops (F : Fence) (N : Nat) (hF : F.fn 113) (hro : F.round = none) (hN : 1 ≤ N) (Bs Bl m g b off n cap long : Nat) (hn : n ≤ 128) (hnc : n ≤ cap) (hl1 : 1 ≤ long) (hl2 : long ≤ 128) (hbs : Bs < m) (hbl : Bl < m) (gs : Bs ≠ g) (gl : Bl ≠ g)
    (w : World) (hBs : w.cell? ⟨Bs, 0, none⟩ = some (.slice (some ⟨b, off, none⟩) n cap)) (hBl : w.cell? ⟨Bl, 0, none⟩ = some (.int .i64 (long : Int))) :
    SeqStopsK F N Try.prog 113 #[.pointer (some ⟨Bs, 0, none⟩), .pointer (some ⟨Bl, 0, none⟩)] (lastE b off long n) (KpG m g) (fun ys => ys = uptoA n n (Nat.le_refl _)) (fun pre => ∃ k h, pre = uptoA n k h) n w := fun l J Jx W hW _ _ hY h0 =>
  lastOnesG1_in F N hF hro hN l Bs Bl m g b off n cap long hn hnc hl1 hl2 hbs hbl gs gl J Jx hY W
    ((hW.cell (p := ⟨Bs, 0, none⟩) (World.block_lt_of_cell? w ⟨Bs, 0, none⟩ hBs)).trans hBs) ((hW.cell (p := ⟨Bl, 0, none⟩) (World.block_lt_of_cell? w ⟨Bl, 0, none⟩ hBl)).trans hBl) h0
end Go.Proofs.Ytjnhflpoddpfnab
