/- BandPairs: pairs of indices, by the program. -/
import Derived.Test.YtibldgcfplpdkaaBpc
import Derived.Test.YtibldgcfplpdkaaPrs
import Derived.Test.YtibldgcfplpdkaaRow
namespace Go.Proofs.Ytibldgcfplpdkaa
open Go.ChangeShapes Go.WideShapes Go.ChangeAt Go.RowKit
set_option linter.unusedVariables false
theorem two_cell_at_b (w : World) (o1 o2 : Value) (t : TypeId) : ∀ (j : Nat) (u : Value), [o1, o2][j]? = some u → (w.alloc (.cells #[o1, o2] t)).cell? ((⟨w.heap.size, 0, none⟩ : Addr).add j) = some u := by
  intro j u hj
  match j, hj with
  | 0, hj => simp at hj; subst hj; simp [Addr.add]
  | 1, hj => simp at hj; subst hj; simp [Addr.add]
theorem owns_on_b {w w' : World} {base n : Nat} {t : TypeId} {v : Value} {xs : List Value} (h : w.ownsRow base t 1 v n xs) (e : Ext w w') : w'.ownsRow base t 1 v n xs := by
  refine ⟨h.1, ?_⟩
  rcases h.2 with h0 | ⟨g, cap, cur, rfl, hb, hg, rest⟩
  · exact .inl h0
  · exact .inr ⟨g, cap, cur, rfl, hb, by rw [Below.block e g (Array.getElem?_eq_some_iff.1 hg).1]; exact hg, rest⟩
theorem ints_app_b (xs ys : List Int) : ints (xs ++ ys) = ints xs ++ ints ys := by unfold ints; rw [List.map_append]
theorem prRow_yes_b {p : Nat → Nat → Bool} {i j : Nat} (h : p i (i + 1 + j) = true) : prRow p i (j + 1) = prRow p i j ++ [(i : Int), ((i + 1 + j : Nat) : Int)] := by
  show prRow p i j ++ prOne p i (i + 1 + j) = _; rw [prOne_yes h]
theorem prRow_no_b {p : Nat → Nat → Bool} {i j : Nat} (h : p i (i + 1 + j) = false) : prRow p i (j + 1) = prRow p i j := by
  show prRow p i j ++ prOne p i (i + 1 + j) = _; rw [prOne_no h, List.append_nil]
set_option maxRecDepth 100000 in
set_option maxHeartbeats 4000000 in
theorem c_pairsOf_b (gl gw : Nat) (n : Nat) (p q : Nat → Nat → Bool) (w : World) {rz : List Int} {rb : Bool} (hv : pairsR p q n = (rz, rb)) (hn : n ≤ 32)
    (hP : ∀ (W : World) (i k : Nat), Ext w W → i < k → k < n → Calls Try.prog 118 #[.int .i64 (i : Int), .int .i64 (k : Int), .pointer (some ⟨gl, 0, none⟩), .pointer (some ⟨gw, 0, none⟩)] W fun e W' => e = .returned (.tuple #[.bool (p i k), .bool (q i k)]) ∧ Ext W W') :
    Calls Try.prog 117 #[.int .i64 (n : Int), .func (.func 118) #[] #[.pointer (some ⟨gl, 0, none⟩), .pointer (some ⟨gw, 0, none⟩)]] w (RetSB 2 rz.length (ints rz) rb w) := by
  obtain ⟨i0, hi, hz0, hz1, hz2⟩ := info_parts info_i64
  have HP := Lib.hid hP
  have HV := Lib.hid hv
  have HBD := Lib.hid (show ∀ i j, i ≤ n → j ≤ n → (prAll p n i ++ prRow p i j).length ≤ 4096 from fun i j hi hj => by
    have h1 := prAll_le p n i
    have h2 := prRow_le p i j
    have h3 : 2 * n * i ≤ 2 * 32 * 32 := Nat.mul_le_mul (by omega) (by omega)
    rw [List.length_append]; omega)
  have hnI : (n : Int) ≤ 32 := by omega
  clear hP hv
  go_enter Try.func117, Try.ntmps117
  go_wp2
  go_loopw [6, 13] (fun v i wr => ∃ k : Nat, k ≤ n ∧ i = .int .i64 k ∧ wr.ownsRow w.heap.size 2 1 v (prAll p n k).length (ints (prAll p n k)) ∧ Ext w wr ∧ ∀ s t, s < k → s < t → t < n → q s t = true) (fun _ i _ => n - (intOf i).toNat)
  case atStart => exact ⟨0, Nat.zero_le _, rfl, World.ownsRow_made _ _ _ (Nat.le_refl _) (Nat.zero_le _) rfl, Ext.alloc _ _, fun s t h => absurd h (Nat.not_lt_zero _)⟩
  case round =>
    obtain ⟨i, hik, rfl, hown, hext, hall⟩ := hrel
    have HO := Lib.hid hown
    have HE := Lib.hid hext
    have HA := Lib.hid hall
    clear hall
    by_cases hlt : i < n
    · have hltI : (i : Int) < (n : Int) := by omega
      clear hown hext
      obtain ⟨wo, rfl⟩ : ∃ wo : World, wo = wr := ⟨_, rfl⟩
      go_wp2
      go_loopw [6, 8] (fun v t wr => ∃ j : Nat, i + 1 + j ≤ n ∧ t = .int .i64 ((i + 1 + j : Nat) : Int) ∧ wr.ownsRow w.heap.size 2 1 v (prAll p n i ++ prRow p i j).length (ints (prAll p n i ++ prRow p i j)) ∧ Ext w wr ∧ ∀ s, s < j → q i (i + 1 + s) = true) (fun _ t _ => n - (intOf t).toNat)
      case atStart => exact ⟨0, by omega, rfl, by rw [show prRow p i 0 = [] from rfl, List.append_nil]; exact HO.out, HE.out, fun s h => absurd h (Nat.not_lt_zero _)⟩
      case round =>
        obtain ⟨j, hj, rfl, hown, hext, hall⟩ := hrel
        have HO2 := Lib.hid hown
        have HE2 := Lib.hid hext
        have HA2 := Lib.hid hall
        clear hown hext hall
        have hbd := HBD.out i j (by omega) (by omega)
        obtain ⟨k, hk⟩ : ∃ k, i + 1 + j = k := ⟨_, rfl⟩
        have HK := Lib.hid hk
        have hkI : (k : Int) = (i : Int) + 1 + (j : Int) := by omega
        have HKI := Lib.hid hkI
        rw [hk]
        by_cases hlt2 : k < n
        · have hlt2I : (k : Int) < (n : Int) := by omega
          have hik2 : i < k := by omega
          have CP := HP.out wr i k HE2.out hik2 hlt2
          obtain ⟨pv, hpv⟩ : ∃ b, p i k = b := ⟨_, rfl⟩
          obtain ⟨qv, hqv⟩ : ∃ b, q i k = b := ⟨_, rfl⟩
          rw [hpv, hqv] at CP
          have HPV := Lib.hid hpv
          have HQV := Lib.hid hqv
          have HCP := Lib.hid CP
          clear CP hpv hqv hk hkI
          cases qv
          · have hv2 : ([], false) = (rz, rb) := by rw [← HV.out, pairsR_no (okAll_no hik2 hlt2 HQV.out)]
            cases hv2
            go_wp2_with (go_at_call 118; refine HCP.out.mono ?_; rintro e w2 ⟨rfl, x'⟩; have X2 := Lib.hid x'; clear x')
            go_ret2
            exact ⟨none, 0, rfl, Own.nil _ _ _ _, HE2.out.trans X2.out⟩
          · have HN := Lib.hid (show ∀ s, s < j + 1 → q i (i + 1 + s) = true from fun s hs => by
              by_cases e : s = j
              · subst e; rw [HK.out]; exact HQV.out
              · exact HA2.out s (by omega))
            cases pv
            · have HR := Lib.hid (prRow_no_b (p := p) (i := i) (j := j) (by rw [HK.out]; exact HPV.out))
              go_wp2_with (go_at_call 118; refine HCP.out.mono ?_; rintro e w2 ⟨rfl, x'⟩; have X2 := Lib.hid x'; clear x')
              go_roundw
              case rel => exact ⟨j + 1, by have := HK.out; omega, by first | (rw [show i + 1 + (j + 1) = k + 1 by have := HK.out; omega]; go_num), by rw [HR.out]; exact owns_on_b HO2.out X2.out, HE2.out.trans X2.out, HN.out⟩
              case measure => simp [intOf]; omega
            · have HR := Lib.hid (prRow_yes_b (p := p) (i := i) (j := j) (by rw [HK.out]; exact HPV.out))
              obtain ⟨M, hM⟩ : ∃ M, prAll p n i ++ prRow p i j = M := ⟨_, rfl⟩
              have HM := Lib.hid hM
              rw [hM] at HO2 hbd
              obtain ⟨m, hm⟩ : ∃ m, M.length = m := ⟨_, rfl⟩
              have HML := Lib.hid hm
              rw [hm] at HO2 hbd
              clear hM hm
              go_wp2_with (first | (go_at_call 118; refine HCP.out.mono ?_; rintro e w2 ⟨rfl, x'⟩; have X2 := Lib.hid x'; clear x') | (at_builtin; refine wpList_append_own _ rfl _ _ 24 rfl w.heap.size 2 i0 (.int .i64 0) 1 8 Try.underlying24 hi hz0 hz1 hz2 rfl (by decide) _ _ _ rfl ((owns_on_b HO2.out X2.out).alloc _) ⟨_, 0, none⟩ 2 2 [.int .i64 (i : Int), .int .i64 (k : Int)] rfl rfl (by first | exact two_cell_at_b _ _ _ _) (by intro u hu; simp at hu; rcases hu with rfl | rfl <;> rfl) (by unfold maxLen; omega) (by omega) (by have := HE2.out.size; have := X2.out.size; simp; omega) ?_; intro v' w3 hown' hgrow _; have HO3 := Lib.hid hown'; have HE3 := Lib.hid (app_step (HE2.out.trans X2.out) (owns_on_b HO2.out X2.out) hgrow); clear hown' hgrow HO2))
              go_roundw
              case rel => exact ⟨j + 1, by have := HK.out; omega, by first | (rw [show i + 1 + (j + 1) = k + 1 by have := HK.out; omega]; go_num), by rw [HR.out, ← List.append_assoc, HM.out, List.length_append, HML.out, ints_app_b, HK.out]; exact HO3.out, HE3.out, HN.out⟩
              case measure => simp [intOf]; omega
        · have hkn : k = n := by omega
          subst hkn
          have hlt2' : ¬ (k : Int) < (k : Int) := by omega
          have HR := Lib.hid (prAll_row p (n := k) (i := i) (j := j) HK.out)
          have HN := Lib.hid (show ∀ s t, s < i + 1 → s < t → t < k → q s t = true from fun s t h1 h2 h3 => by
            by_cases e : s = i
            · subst e
              have := HA2.out (t - (s + 1)) (by have := HK.out; omega)
              rwa [show s + 1 + (t - (s + 1)) = t by omega] at this
            · exact HA.out s t (by omega) h2 h3)
          rw [HR.out] at HO2
          clear hk hkI hbd
          go_wp2
          go_roundw
          case rel => exact ⟨i + 1, by omega, by go_num, HO2.out, HE2.out, HN.out⟩
          case measure => simp [intOf]; omega
    · have hin : i = n := by omega
      subst hin
      have hlt' : ¬ (i : Int) < (i : Int) := by omega
      have hv2 : (prAll p i i, true) = (rz, rb) := by rw [← HV.out, pairsR_yes (okAll_yes fun s t h1 h2 => HA.out s t (by omega) h1 h2)]
      cases hv2
      obtain ⟨a', c', hv', ho⟩ := Own.of_row (e := 0) hown
      subst hv'
      have HO' := Lib.hid ho
      clear ho hown hext
      go_wp2
      go_ret2
      exact ⟨a', c', rfl, HO'.out, HE.out⟩
end Go.Proofs.Ytibldgcfplpdkaa
