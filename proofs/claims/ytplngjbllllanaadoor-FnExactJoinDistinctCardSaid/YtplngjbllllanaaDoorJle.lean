/- JoinLeast: both sides. -/
import Derived.Test.YtplngjbllllanaaDoorCnt
namespace Go.Proofs.YtplngjbllllanaaDoor
open Go.ChangeShapes Go.WideShapes Go.ChangeAt Go.RowKit
set_option linter.unusedVariables false
def jlR (xs ys : List Int) (room : Int) : List Int × Bool := if leastB xs room && leastB ys room then (leastD room.toNat (xs ++ ys), true) else ([], false)
theorem jlR_yes {xs ys : List Int} {room : Int} (h : (leastB xs room && leastB ys room) = true) : jlR xs ys room = (leastD room.toNat (xs ++ ys), true) := by unfold jlR; rw [h]; rfl
theorem jlR_no {xs ys : List Int} {room : Int} (h : (leastB xs room && leastB ys room) = false) : jlR xs ys room = ([], false) := by unfold jlR; rw [h]; rfl
theorem least_room {xs : List Int} {room : Int} (h : leastB xs room = true) : inB 1 room 256 = true ∧ (xs.length : Int) ≤ room ∧ keysB xs = true ∧ riseB xs = true := by
  unfold leastB at h
  simp only [Bool.and_eq_true, decide_eq_true_eq] at h
  exact ⟨h.1, h.2.1, h.2.2.1, h.2.2.2⟩
theorem jlR_le {xs ys : List Int} {room : Int} {rz : List Int} {rb : Bool} (h : jlR xs ys room = (rz, rb)) : rz.length ≤ 1048576 := by
  cases hb : leastB xs room && leastB ys room
  · rw [jlR_no hb] at h; cases h; exact Nat.zero_le _
  · rw [jlR_yes hb] at h; cases h
    simp only [Bool.and_eq_true] at hb
    have := leastD_le room.toNat (xs ++ ys)
    have := (inB_is.1 (least_room hb.1).1).2
    omega
theorem owns_base {w : World} {base base' n : Nat} {t : TypeId} {v : Value} {xs : List Value} (h : w.ownsRow base t 1 v n xs) (hb : base' ≤ base) : w.ownsRow base' t 1 v n xs := by
  refine ⟨h.1, ?_⟩
  rcases h.2 with h0 | ⟨g, cap, cur, h1, h2, rest⟩
  · exact .inl h0
  · exact .inr ⟨g, cap, cur, h1, by omega, rest⟩
set_option maxRecDepth 100000 in
set_option maxHeartbeats 2000000 in
theorem c_Concat2 (g : Nat) (a1 : Option Addr) (n1 c1 : Nat) (xs : List Int) (a2 : Option Addr) (n2 c2 : Nat) (ys : List Int) (w : World) (hc0 : w.cell? ⟨g, 0, none⟩ = some (.slice a1 n1 c1)) (hc1 : w.cell? ⟨g, 1, none⟩ = some (.slice a2 n2 c2))
    (s1 : SlN a1 n1 c1) (s2 : SlN a2 n2 c2) (h1 : Reads w a1 n1 (ints xs)) (h2 : Reads w a2 n2 (ints ys)) (hn : n1 ≤ 1048576) (hm : n2 ≤ 1048576) :
    Calls Tryd.prog 25 #[.slice (some ⟨g, 0, none⟩) 2 2] w (RetS 2 (n1 + n2) (ints (xs ++ ys)) w) := by
  have l1 := h1.1
  have l2 := h2.1
  rw [ints_length] at l1 l2
  obtain ⟨N, hN⟩ : ∃ N, n1 + n2 = N := ⟨_, rfl⟩
  rw [hN]
  obtain ⟨i0, hi, hz0, hz1, hz2⟩ := info_parts info_i64
  have HN := Lib.hid hN
  have H1 := Lib.hid h1
  have H2 := Lib.hid h2
  have S1 := Lib.hid s1
  have S2 := Lib.hid s2
  have L1 := Lib.hid l1
  have L2 := Lib.hid l2
  have HB := Lib.hid (And.intro hn hm)
  have C0 := Lib.hid hc0
  have C1 := Lib.hid hc1
  clear h1 h2 s1 s2 l1 l2 hN hn hm hc0 hc1
  go_enter Tryd.func25, Tryd.ntmps25
  go_wp2
  go_loopw [3, 11] (fun s i wr => ∃ k S : Nat, k ≤ 2 ∧ i = .int .i64 k ∧ s = .int .i64 S ∧ (k = 0 → S = 0) ∧ (k = 1 → S = n1) ∧ (k = 2 → S = N) ∧ Ext w wr) (fun _ i _ => 2 - (intOf i).toNat)
  case atStart => exact ⟨0, 0, by omega, rfl, rfl, fun _ => rfl, fun h => absurd h (by decide), fun h => absurd h (by decide), Ext.refl _⟩
  case round =>
    obtain ⟨k, S, hk, rfl, rfl, hs0, hs1, hs2, hext⟩ := hrel
    have HE := Lib.hid hext
    by_cases k0 : k = 0
    · subst k0
      obtain rfl := hs0 rfl
      have cz := HE.out.some C0.out
      have b1 : (n1 : Int) ≤ 1048576 := by have := HB.out.1; omega
      clear hs0 hs1 hs2 hext
      go_wp2
      go_roundw
      case rel => exact ⟨1, n1, by omega, rfl, by go_num, fun h => absurd h (by decide), fun _ => rfl, fun h => absurd h (by decide), HE.out⟩
      case measure => simp [intOf]
    by_cases k1 : k = 1
    · subst k1
      obtain rfl := hs1 rfl
      have cz := HE.out.some C1.out
      have b1 : (S : Int) ≤ 1048576 := by have := HB.out.1; omega
      have b2 : (n2 : Int) ≤ 1048576 := by have := HB.out.2; omega
      have hSN : (S : Int) + (n2 : Int) = (N : Int) := by have := HN.out; omega
      have b3 : (N : Int) ≤ 2097152 := by omega
      have b4 : ¬ (N : Int) < 0 := by omega
      have b5 : wrap64 ((S : Int) + (n2 : Int)) = (N : Int) := by unfold wrap64; omega
      have HSN := Lib.hid hSN
      clear hs0 hs1 hs2 hext hSN
      go_wp2
      go_roundw
      case rel => exact ⟨2, N, by omega, rfl, by first | rfl | (rw [HSN.out]; done) | go_num, fun h => absurd h (by decide), fun h => absurd h (by decide), fun _ => rfl, HE.out⟩
      case measure => simp [intOf]
    · have hk2 : k = 2 := by omega
      subst hk2
      obtain rfl := hs2 rfl
      clear hs0 hs1 hs2 hext k0 k1
      go_wp2_with fail
      refine (c_Grow_new S _ (by have := HN.out; have := HB.out; omega)).mono ?_; rintro e w2 ⟨v0, rfl, o2, x2⟩
      have E2 := Lib.hid (HE.out.trans x2)
      have O2 := Lib.hid o2
      have SZ := Lib.hid HE.out.size
      clear o2 x2
      go_wp2
      have O3 := Lib.hid (owns_base O2.out SZ.out)
      go_loopw [6, 27] (fun v i wr => ∃ (k : Nat) (L : List Int), k ≤ 2 ∧ i = .int .i64 k ∧ (k = 0 → L = []) ∧ (k = 1 → L = xs) ∧ (k = 2 → L = xs ++ ys) ∧ wr.ownsRow w.heap.size 2 1 v L.length (ints L) ∧ Ext w wr) (fun _ i _ => 2 - (intOf i).toNat)
      case atStart => exact ⟨0, [], by omega, rfl, fun _ => rfl, fun h => absurd h (by decide), fun h => absurd h (by decide), O3.out, E2.out⟩
      case round =>
        obtain ⟨k, L, hk, rfl, hs0, hs1, hs2, hown, hext⟩ := hrel
        have HO := Lib.hid hown
        have HQ := Lib.hid hext
        by_cases k0 : k = 0
        · subst k0
          obtain rfl := hs0 rfl
          have cz := HQ.out.some C0.out
          clear hs1 hs2 hext hown
          go_wp2_with (at_builtin; refine wpList_append_spread rfl _ _ 22 rfl 2 i0 (.int .i64 0) Tryd.underlying22 hi hz0 hz1 hz2 rfl _ _ _ rfl HQ.out HO.out a1 n1 c1 xs rfl S1.out (H1.out.on HQ.out) (by have := HB.out; have := L1.out; simp; omega) ?_; intro v' w3 o3 x3; have O4 := Lib.hid o3; have X4 := Lib.hid x3; clear o3 x3)
          go_roundw
          case rel => exact ⟨1, xs, by omega, rfl, fun h => absurd h (by decide), fun _ => rfl, fun h => absurd h (by decide), by have h := O4.out; rw [List.length_nil, Nat.zero_add, show ints [] ++ ints xs = ints xs from rfl] at h; rw [L1.out]; exact h, X4.out⟩
          case measure => simp [intOf]
        by_cases k1 : k = 1
        · subst k1
          obtain rfl := hs1 rfl
          have cz := HQ.out.some C1.out
          clear hs0 hs2 hext hown k0
          go_wp2_with (at_builtin; refine wpList_append_spread rfl _ _ 22 rfl 2 i0 (.int .i64 0) Tryd.underlying22 hi hz0 hz1 hz2 rfl _ _ _ rfl HQ.out HO.out a2 n2 c2 ys rfl S2.out (H2.out.on HQ.out) (by have := HB.out; have := L1.out; simp; omega) ?_; intro v' w3 o3 x3; have O4 := Lib.hid o3; have X4 := Lib.hid x3; clear o3 x3)
          go_roundw
          case rel => exact ⟨2, _, by omega, rfl, fun h => absurd h (by decide), fun h => absurd h (by decide), fun _ => rfl, by have h := O4.out; rw [← ints_app, ← L2.out, ← List.length_append] at h; exact h, X4.out⟩
          case measure => simp [intOf]
        · have hk2 : k = 2 := by omega
          subst hk2
          obtain rfl := hs2 rfl
          rw [show (xs ++ ys).length = S by rw [List.length_append, L1.out, L2.out]; exact HN.out] at hown
          obtain ⟨a', c', hv, ho⟩ := Own.of_row (e := 0) hown
          subst hv
          have HO' := Lib.hid ho
          clear hs0 hs1 hext k0 k1 ho hown
          go_wp2
          go_ret
          exact ⟨_, _, rfl, HO'.out, HQ.out⟩
end Go.Proofs.YtplngjbllllanaaDoor
