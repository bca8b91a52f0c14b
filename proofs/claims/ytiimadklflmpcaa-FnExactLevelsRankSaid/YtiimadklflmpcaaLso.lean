/- The iterator over what levels stand for. -/
import Derived.Test.YtiimadklflmpcaaLoq
import Derived.Test.YtiimadklflmpcaaLst
namespace Go.Proofs.Ytiimadklflmpcaa
open Go.ChangeShapes Go.WideShapes Go.ChangeAt Go.RowKit Go.Shelf
set_option linter.unusedVariables false
attribute [local go_sem] Oper.semAt_some
/-- a number (its bits) and the index of its list -/
abbrev St := { p : Nat × Nat // p.2 < 16 }
def stE (x : St) : Array Value := #[.float .f32 x.1.1, .int .i64 ((2 ^ x.1.2 : Nat) : Int)]
def stAt (h b : Nat) : St := ⟨(b, h % 16), Nat.mod_lt _ (by decide)⟩
def stRow (zss : List (List Nat)) (h k : Nat) : List St := ((rowS zss h).take k).map (stAt h)
def stAll (zss : List (List Nat)) : Nat → List St
  | 0 => []
  | h + 1 => stAll zss h ++ stRow zss h (rowS zss h).length
theorem stRow_zero (zss : List (List Nat)) (h : Nat) : stRow zss h 0 = [] := rfl
theorem stRow_succ (zss : List (List Nat)) (h k : Nat) (hk : k < (rowS zss h).length) : stRow zss h (k + 1) = stRow zss h k ++ [stAt h ((rowS zss h)[k]?.getD 0)] := by
  unfold stRow
  rw [List.take_succ_eq_append_getElem hk, List.map_append, List.getElem?_eq_getElem hk]; rfl
theorem stRow_len (zss : List (List Nat)) (h k : Nat) (hk : k ≤ (rowS zss h).length) : (stRow zss h k).length = k := by
  unfold stRow; rw [List.length_map, List.length_take]; omega
theorem stAll_le (zss : List (List Nat)) : ∀ h, (∀ i, i < h → (rowS zss i).length ≤ 64) → (stAll zss h).length ≤ 64 * h
  | 0, _ => Nat.le_refl _
  | h + 1, hr => by
    have h1 := stAll_le zss h (fun i hi => hr i (by omega))
    have h2 := hr h (Nat.lt_succ_self _)
    show (stAll zss h ++ stRow zss h (rowS zss h).length).length ≤ _
    rw [List.length_append, stRow_len zss h _ (Nat.le_refl _)]; omega
/-- for how many those stand that are chosen -/
def stSum (p : Nat → Bool) (pre : List St) : Nat := (pre.map fun x => if p x.1.1 = true then 2 ^ x.1.2 else 0).sum
theorem stSum_snoc (p : Nat → Bool) (pre : List St) (x : St) : stSum p (pre ++ [x]) = stSum p pre + (if p x.1.1 = true then 2 ^ x.1.2 else 0) := by
  unfold stSum; rw [List.map_append, List.sum_append]; simp
theorem stSum_append (p : Nat → Bool) (pre xs : List St) : stSum p (pre ++ xs) = stSum p pre + stSum p xs := by
  unfold stSum; rw [List.map_append, List.sum_append]
theorem stSum_le (p : Nat → Bool) : ∀ pre : List St, stSum p pre ≤ pre.length * 32768
  | [] => Nat.le_refl _
  | x :: pre => by
    have h1 := stSum_le p pre
    have h2 : 2 ^ x.1.2 ≤ 32768 := Nat.pow_le_pow_right (n := 2) (by decide) (show x.1.2 ≤ 15 by have := x.2; omega)
    have h3 : stSum p (x :: pre) = (if p x.1.1 = true then 2 ^ x.1.2 else 0) + stSum p pre := by unfold stSum; rw [List.map_cons, List.sum_cons]
    have h4 : (if p x.1.1 = true then 2 ^ x.1.2 else 0) ≤ 32768 := by split <;> omega
    rw [h3, List.length_cons, Nat.succ_mul]; omega
theorem stSum_row (p : Nat → Bool) (zss : List (List Nat)) (h : Nat) (hh : h < 16) : ∀ k, k ≤ (rowS zss h).length → stSum p (stRow zss h k) = 2 ^ h * cntTo p (rowS zss h) k
  | 0, _ => rfl
  | k + 1, hk => by
    have ih := stSum_row p zss h hh k (by omega)
    have e : (stAt h ((rowS zss h)[k]?.getD 0)).1.2 = h := Nat.mod_eq_of_lt hh
    rw [stRow_succ zss h k (by omega), stSum_snoc, ih, e]
    show _ = 2 ^ h * (cntTo p (rowS zss h) k + _)
    show 2 ^ h * cntTo p (rowS zss h) k + (if p ((rowS zss h)[k]?.getD 0) = true then 2 ^ h else 0) = _
    rw [Nat.mul_add]
    split
    · rw [Nat.mul_one]
    · rw [Nat.mul_zero]
theorem stSum_all (p : Nat → Bool) (zss : List (List Nat)) : ∀ h, h ≤ 16 → stSum p (stAll zss h) = standTo p zss h
  | 0, _ => rfl
  | h + 1, hh => by
    show stSum p (stAll zss h ++ stRow zss h (rowS zss h).length) = _
    rw [stSum_append, stSum_all p zss h (by omega), stSum_row p zss h (by omega) _ (Nat.le_refl _), standTo_succ]
theorem Reads.kpG {w0 W W' : World} {m g n : Nat} {a : Option Addr} {vs : List Value} (h : Reads w0 a n vs) (x : Ext w0 W) (h0 : w0.heap.size ≤ g) (hm : w0.heap.size ≤ m) (hk : KpG m g W W') : Reads W' a n vs := by
  refine ⟨h.1, ?_⟩
  rcases h.2 with h1 | ⟨b, off, rfl, hc⟩
  · exact .inl h1
  · exact .inr ⟨b, off, rfl, fun i hi => by
      have e : vs[i]? = some (vs[i]'(by rw [h.1]; exact hi)) := List.getElem?_eq_getElem _
      have h1 := hc i hi
      rw [e] at h1 ⊢
      have hb := World.block_lt_of_cell? w0 ⟨b, off + i, none⟩ h1
      exact hk.cell (Nat.lt_of_lt_of_le hb hm) (by have : b < w0.heap.size := hb; omega) (x.some h1)⟩
theorem ReadsS.kpG {α : Type} {fn : List α → List Value} {w0 W W' : World} {m g n : Nat} {a : Option Addr} {hs : Nat → Hd} {zss : List (List α)} (h : ReadsS fn w0 a n hs zss) (x : Ext w0 W) (h0 : w0.heap.size ≤ g) (hm : w0.heap.size ≤ m) (hk : KpG m g W W') : ReadsS fn W' a n hs zss :=
  ⟨Reads.kpG h.o x h0 hm hk, fun i hi => Reads.kpG (h.r i hi) x h0 hm hk⟩
set_option maxRecDepth 100000 in
set_option maxHeartbeats 4000000 in
theorem standing1_in (F : Fence) (N : Nat) (hF : F.fn 145) (hro : F.round = none) (hN : 1 ≤ N) (l Bl m g : Nat) (a : Option Addr) (n cap : Nat) (hs : Nat → Hd) (zss : List (List Nat)) (hn : n ≤ 16) (hrl : ∀ i, i < n → (rowS zss i).length ≤ 64) (J Jx : List St → World → Prop)
    (hY : ∀ pre x W, J pre W → pre.length < 1024 → YieldAt F (N - 1) Try.prog l (stE x) W fun e W' =>
      (e = .returned (.bool true) ∧ J (pre ++ [x]) W' ∧ KpG m g W W') ∨ (e = .returned (.bool false) ∧ Jx (pre ++ [x]) W'))
    (W : World) (hRd : ∀ W', KpG m g W W' → ReadsS flos W' a n hs zss) (hBl : ∀ W', KpG m g W W' → W'.cell? ⟨Bl, 2, none⟩ = some (.slice a n cap)) (h0 : J [] W) :
    CallsIn F N Try.prog 145 #[.func (.yield l) #[] #[], .pointer (some ⟨Bl, 0, none⟩)] W fun e W' => (∃ v, e = .returned v) ∧
      ((∃ ys, ys = stAll zss n ∧ J ys W') ∨ (∃ pre, True ∧ Jx pre W')) := by
  have HRd := Lib.hid hRd
  have HBl := Lib.hid hBl
  have HRL := Lib.hid hrl
  have HY := Lib.hid hY
  have c0 := hBl W (KpG.refl _ _ _)
  have HLL := Lib.hid (show ∀ h, h ≤ n → (stAll zss h).length ≤ 64 * h from fun h hh => stAll_le zss h (fun i hi => hrl i (by omega)))
  have hnI : (n : Int) ≤ 16 := by omega
  clear hRd hBl hrl hY
  refine callsIn_of_wp Try.func145 rfl hF ?_ hro
  simp only [Try.ntmps145, List.size_toArray, List.length_cons, List.length_nil, Nat.reduceAdd, Nat.reduceSub, Array.replicate_succ, Array.replicate_zero, List.push_toArray, List.append_toArray, List.nil_append, List.cons_append]
  gi_wp2
  gi_loopw [10] (fun i wr => ∃ h : Nat, h ≤ n ∧ i = .int .i64 h ∧ J (stAll zss h) wr ∧ KpG m g W wr)
    (fun i _ => n - (intOf i).toNat)
  case atStart => exact ⟨0, Nat.zero_le _, rfl, h0, KpG.refl _ _ _⟩
  case round =>
    obtain ⟨h, hh, rfl, hJs, hnx⟩ := hrel
    have HK := Lib.hid hnx
    have HJ := Lib.hid hJs
    clear hnx hJs
    by_cases hlt : h < n
    · have hltI : (h : Int) < (n : Int) := by omega
      rcases (HRd.out wr HK.out).cells with h1 | ⟨b, off, rfl, hc⟩
      · omega
      have cz := hc h hlt
      obtain ⟨d, hd⟩ : ∃ d, (rowS zss h).length = d := ⟨_, rfl⟩
      have HD := Lib.hid hd
      have hdb : d ≤ 64 := by rw [← hd]; exact HRL.out h hlt
      rw [hd] at cz
      clear hc hd
      gi_wp2
      gi_loopw [17] (fun i wr => ∃ k : Nat, k ≤ d ∧ i = .int .i64 k ∧ J (stAll zss h ++ stRow zss h k) wr ∧ KpG m g W wr)
        (fun i _ => d - (intOf i).toNat)
      case atStart => exact ⟨0, Nat.zero_le _, rfl, by rw [stRow_zero, List.append_nil]; exact HJ.out, HK.out⟩
      case round =>
        obtain ⟨k, hk, rfl, hJs, hnx⟩ := hrel
        have HK2 := Lib.hid hnx
        have HJ2 := Lib.hid hJs
        clear hnx hJs
        by_cases hlt2 : k < d
        · have hlt2I : (k : Int) < (d : Int) := by omega
          obtain ⟨x, hx⟩ : ∃ x, (rowS zss h)[k]?.getD 0 = x := ⟨_, rfl⟩
          have HS := Lib.hid (show stRow zss h (k + 1) = stRow zss h k ++ [stAt h x] by rw [stRow_succ zss h k (by rw [HD.out]; exact hlt2), hx])
          obtain ⟨fn, tmps, assign, body, hy, hR⟩ := HY.out _ (stAt h x) wr HJ2.out (by
            have h1 := HLL.out h hh
            rw [List.length_append, stRow_len zss h k (by rw [HD.out]; omega)]; omega)
          have hrd := ((HRd.out wr HK2.out).r h hlt).flo.2
          rw [HD.out] at hrd
          rcases hrd with h1 | ⟨b2, off2, ha2, hc2⟩
          · omega
          rw [ha2] at *
          have cx := hc2 k hlt2
          rw [hx] at cx
          obtain ⟨M, hM⟩ : ∃ M : Nat, 2 ^ h = M := ⟨_, rfl⟩
          have hMI : (2 : Int) ^ h = (M : Int) := by rw [← hM]; simp
          have hMb : M ≤ 65536 := by rw [← hM]; exact Nat.pow_le_pow_right (n := 2) (by decide) (show h ≤ 16 by omega)
          have hmod : h % 16 = h := Nat.mod_eq_of_lt (by omega)
          unfold stE stAt at hy
          dsimp only at hy
          rw [hmod, hM] at hy
          clear hc2 hx
          gi_wp2
          refine hR.mono ?_
          rintro e W3 (⟨rfl, hJ3, hk3⟩ | ⟨rfl, hJx3⟩)
          · gi_wp2
            go_roundw
            case rel => exact ⟨k + 1, by omega, by first | rfl | simp | go_num, by rw [HS.out, ← List.append_assoc]; exact hJ3, HK2.out.trans hk3⟩
            case measure => simp [intOf]; omega
          · gi_wp2
            refine bodyPost_ret (results_none rfl _ _ _) rfl ?_
            exact ⟨⟨_, rfl⟩, .inr ⟨_, trivial, hJx3⟩⟩
        · have hkd : k = d := by omega
          subst hkd
          have hlt2' : ¬ (k : Int) < (k : Int) := by omega
          have HS := Lib.hid (show stAll zss (h + 1) = stAll zss h ++ stRow zss h k by show stAll zss h ++ stRow zss h (rowS zss h).length = _; rw [HD.out])
          gi_wp2
          go_roundw
          case rel => exact ⟨h + 1, by omega, by first | rfl | simp | go_num, by rw [HS.out]; exact HJ2.out, HK2.out⟩
          case measure => simp [intOf]; omega
    · have hhn : h = n := by omega
      subst hhn
      have hlt' : ¬ (h : Int) < (h : Int) := by omega
      gi_wp2
      go_end0
      first | exact ⟨⟨_, rfl⟩, .inl ⟨_, rfl, HJ.out⟩⟩ | exact ⟨⟨_, rfl⟩, .inl HJ.out⟩ | exact .inl HJ.out | exact .inl ⟨_, rfl, HJ.out⟩
end Go.Proofs.Ytiimadklflmpcaa
