/- CorrectedAt: rows and their sums, by both sides. -/
import Derived.Test.YtfbapbgiegploaaSat
import Derived.Deep.QuietTactic
import Derived.BigQuiet
namespace Go.Proofs.Ytfbapbgiegploaa
open Go.ChangeShapes Go.WideShapes Go.ChangeAt Go.RowKit
set_option linter.unusedVariables false
set_option maxHeartbeats 1000000 in
theorem c_impl_rowOfC (m r : Nat) (D S : Int) (b off n cap : Nat) (w : World) (h1 : 1 ≤ m) (h2 : m ≤ 64) (hr : r ≤ 6) (hn : (r + 1) * m ≤ n) (hc : n ≤ cap) (hcm : cap ≤ maxLen) :
    Calls Try.prog 141 #[.agg #[.int .i64 m, .int .i64 D, .int .i64 S, .slice (some ⟨b, off, none⟩) n cap], .int .i64 r] w fun e w' => e = .returned (.slice (some ⟨b, off + r * m, none⟩) m m) ∧ Ext w w' := by
  unfold maxLen at hcm
  have f1 := wrap_mulN (i := r) (m := m) (by omega) h2
  have f2 : (r : Int) * (m : Int) = ((r * m : Nat) : Int) := by rw [Int.natCast_mul]
  have hpl : r * m ≤ 6 * 64 := Nat.mul_le_mul hr h2
  rw [Nat.add_mul, Nat.one_mul] at hn
  obtain ⟨p, hp⟩ : ∃ p, r * m = p := ⟨_, rfl⟩
  rw [hp] at f1 f2 hpl hn ⊢
  have g1 : (0 : Int) ≤ (p : Int) := by omega
  have g2 : (p : Int) + (m : Int) ≤ (cap : Int) := by omega
  have g3 : ((p : Int) + (m : Int)).toNat = p + m := by omega
  have g4 : (0 : Int) ≤ (p : Int) + (m : Int) := by omega
  have g5 : (p : Int) ≤ (p : Int) + (m : Int) := by omega
  have g6 : p ≤ p + m := by omega
  have g7 : p + m ≤ cap := by omega
  have g8 : ¬ p + m - p = 0 := by omega
  have g9 : p + m - p = m := by omega
  clear hp
  go_enter Try.func141, Try.ntmps141
  go_wp2
  go_ret
  exact ⟨rfl, by (repeat (first | assumption | exact Ext.refl _ | (with_reducible refine Ext.stepS ?_ (by first | exact Nat.le_refl _ | (simp; done) | (simp; omega)) _) | (with_reducible refine Ext.stepN ?_ _) | (with_reducible refine Ext.stepD ?_) | (with_reducible refine Ext.stepA ?_ _)))⟩
set_option maxHeartbeats 1000000 in
theorem c_impl_sumOfC (a : Option Addr) (n cap : Nat) (zs : List Int) (w : World) (hn : n ≤ 384) (hb : ∀ i, i < n → -1000000000000 ≤ zs[i]?.getD 0 ∧ zs[i]?.getD 0 ≤ 1000000000000) (h : Reads w a n (ints zs)) :
    Calls Try.prog 140 #[.slice a n cap] w fun e w' => e = .returned (.int .i64 (sumZ (fun i => zs[i]?.getD 0) n)) ∧ w = w' := by
  obtain ⟨hz, hr⟩ := h.int
  have HR := Lib.hid hr
  obtain ⟨f, hf⟩ : ∃ f : Nat → Int, (fun i => zs[i]?.getD 0) = f := ⟨_, rfl⟩
  have HF := Lib.hid (show ∀ i, zs[i]?.getD 0 = f i from fun i => congrFun hf i)
  have HB := Lib.hid (show ∀ i, i < n → -1000000000000 ≤ f i ∧ f i ≤ 1000000000000 from fun i hi => by rw [← HF.out]; exact hb i hi)
  rw [hf]
  clear hr h hz hf hb
  go_enter Try.func140, Try.ntmps140
  go_wp2
  go_loop [3, 8] (fun s i => ∃ k : Nat, k ≤ n ∧ i = .int .i64 k ∧ s = .int .i64 (sumZ f k)) (fun _ i => n - (intOf i).toNat)
  case atStart => exact ⟨0, by omega, rfl, rfl⟩
  case round =>
    obtain ⟨k, hk, rfl, rfl⟩ := hrel
    by_cases hlt : k < n
    · rcases HR.out with h0 | ⟨b, off, rfl, hc⟩
      · omega
      have hcell := hc k hlt
      rw [HF.out] at hcell
      obtain ⟨x, hx⟩ : ∃ x, f k = x := ⟨_, rfl⟩
      obtain ⟨y, hy⟩ : ∃ y, sumZ f k = y := ⟨_, rfl⟩
      have HM := Lib.hid (show sumZ f (k + 1) = y + x by show sumZ f k + f k = _; rw [hx, hy])
      have h1 := HB.out k hlt
      have h2 := sumZ_bd (f := f) (B := 1000000000000) k (fun i hi => HB.out i (by omega))
      rw [hx] at h1
      rw [hy] at h2
      rw [hx] at hcell
      rw [hy]
      have w1 : IntKind.i64.wrap (y + x) = y + x := wrap_mid (by omega) (by omega)
      have w2 : -9223372036854775808 ≤ y + x := by omega
      have w3 : y + x ≤ 9223372036854775807 := by omega
      clear hx hy hc h1 h2
      go_wp2
      go_round
      case rel => exact ⟨k + 1, by omega, by go_num, by rw [HM.out]⟩
      case measure => simp [intOf]; omega
    · obtain rfl : n = k := by omega
      go_wp2
      go_ret
      exact ⟨rfl, rfl⟩
theorem c_impl_rowOf_vC (m r : Nat) (D S : Int) (b off n cap : Nat) (w : World) (h1 : 1 ≤ m) (h2 : m ≤ 64) (hr : r ≤ 6) (hn : (r + 1) * m ≤ n) (hc : n ≤ cap) (hcm : cap ≤ maxLen) {ri : Int} (hri : (r : Int) = ri) :
    Calls Try.prog 141 #[.agg #[.int .i64 m, .int .i64 D, .int .i64 S, .slice (some ⟨b, off, none⟩) n cap], .int .i64 ri] w fun e w' => e = .returned (.slice (some ⟨b, off + r * m, none⟩) m m) ∧ Ext w w' := by
  subst hri; exact c_impl_rowOfC m r D S b off n cap w h1 h2 hr hn hc hcm
theorem row_readsC {w : World} {b off n m r : Nat} {zs : List Int} (h : Reads w (some ⟨b, off, none⟩) n (ints zs)) (hn : (r + 1) * m ≤ n) : Reads w (some ⟨b, off + r * m, none⟩) m (ints ((zs.drop (r * m)).take m)) := by
  rw [Nat.add_mul, Nat.one_mul] at hn
  have hz := h.int.1
  refine ⟨by rw [ints_length, List.length_take, List.length_drop]; omega, ?_⟩
  rcases h.2 with h0 | ⟨b', off', he, hc⟩
  · exact .inl (by omega)
  · cases he
    refine .inr ⟨b, off + r * m, rfl, fun i hi => ?_⟩
    have h1 := hc (r * m + i) (by omega)
    rw [show off + r * m + i = off + (r * m + i) by omega, h1, ints_get _ _ (by omega), ints_get _ _ (by rw [List.length_take, List.length_drop]; omega)]
    simp [hi]
theorem take_readsC {w : World} {a : Option Addr} {n m : Nat} {zs : List Int} (h : Reads w a n (ints zs)) (hm : m ≤ n) : Reads w a m (ints (zs.take m)) := by
  have hz := h.int.1
  refine ⟨by rw [ints_length, List.length_take]; omega, ?_⟩
  rcases h.2 with h0 | ⟨b, off, rfl, hc⟩
  · exact .inl (by omega)
  · refine .inr ⟨b, off, rfl, fun i hi => ?_⟩
    rw [hc i (by omega), ints_get _ _ (by omega), ints_get _ _ (by rw [List.length_take]; omega)]
    simp [hi]
theorem take_getC {zs : List Int} {m : Nat} (i : Nat) (hi : i < m) : (zs.take m)[i]?.getD 0 = zs[i]?.getD 0 := by simp [hi]
theorem row_getC {zs : List Int} {m r : Nat} (i : Nat) (hi : i < m) : ((zs.drop (r * m)).take m)[i]?.getD 0 = zs[r * m + i]?.getD 0 := by simp [hi]
theorem sumZ_congrC {f g : Nat → Int} : ∀ (n : Nat), (∀ i, i < n → f i = g i) → sumZ f n = sumZ g n
  | 0, _ => rfl
  | n + 1, h => by
    show sumZ f n + f n = sumZ g n + g n
    rw [sumZ_congrC n (fun i hi => h i (by omega)), h n (by omega)]
set_option maxHeartbeats 2000000 in
theorem c_spec_l03RowC (b m d r : Nat) (S : Int) (a : Option Addr) (n cap : Nat) (zs : List Int) (w : World) (ok : CellsOk m d S zs) (hr : r < d) (hb : Box w b 57 #[.int .i64 m, .int .i64 d, .int .i64 S, .slice a n cap]) (h : Reads w a n (ints zs)) {v : Int} (hv : sumZ (fun i => zs[r * m + i]?.getD 0) m = v) :
    Calls Try.prog 176 #[.pointer (some ⟨b, 0, none⟩), .int .i64 r] w fun e w' => e = .returned (.int .i64 v) ∧ ∃ q, w' = w.drewN q := by
  have hd6 := ok.d6
  have m2 := ok.m2
  have m64 := ok.m64
  have hn4 := ok.le
  obtain ⟨hz, hrd⟩ := h.int
  subst hz
  have hrow : (r + 1) * m ≤ zs.length := by rw [ok.len, Nat.mul_comm m d]; exact Nat.mul_le_mul_right m hr
  rw [Nat.add_mul, Nat.one_mul] at hrow
  have HB := Lib.hid hb
  have HR := Lib.hid hrd
  obtain ⟨f, hf⟩ : ∃ f : Nat → Int, (fun i => zs[r * m + i]?.getD 0) = f := ⟨_, rfl⟩
  have HF := Lib.hid (show ∀ i, zs[r * m + i]?.getD 0 = f i from fun i => congrFun hf i)
  have HBD := Lib.hid (show ∀ i, i < m → -1000000000000 ≤ f i ∧ f i ≤ 1000000000000 from fun i hi => by rw [← HF.out]; exact manyB_at ok.many (by omega))
  rw [hf] at hv
  have HV := Lib.hid hv
  have f1 := wrap_mulN (i := r) (m := m) (by omega) m64
  have hpl : r * m ≤ 6 * 64 := Nat.mul_le_mul (by omega) m64
  obtain ⟨p, hp⟩ : ∃ p, r * m = p := ⟨_, rfl⟩
  rw [hp] at f1 hpl hrow
  have HP := Lib.hid hp
  clear hp hf hv h hrd ok hb
  go_enter Try.func176, Try.ntmps176
  go_wp2
  go_loopw [5, 6] (fun s i wr => ∃ k q : Nat, k ≤ m ∧ i = .int .i64 k ∧ s = .int .i64 (sumZ f k) ∧ wr = w.drewN q) (fun _ i _ => m - (intOf i).toNat)
  case atStart => exact ⟨0, 0, by omega, rfl, rfl, rfl⟩
  case round =>
    obtain ⟨k, q, hk, rfl, rfl, hw⟩ := hrel
    have HW := Lib.hid hw
    have HBR := Lib.hid (show Box wr b 57 #[.int .i64 m, .int .i64 d, .int .i64 S, .slice a zs.length cap] by rw [hw]; exact HB.out.drew' q)
    obtain ⟨c0, c1, c2, c3⟩ := HBR.out.four
    by_cases hlt : k < m
    · rcases HR.out with h0 | ⟨ab, ao, rfl, hc⟩
      · omega
      have hcell : wr.cell? ⟨ab, ao + (p + k), none⟩ = some (.int .i64 (f k)) := by
        rw [hw, ← HF.out, HP.out]; exact hc (p + k) (by omega)
      obtain ⟨x, hx⟩ : ∃ x, f k = x := ⟨_, rfl⟩
      obtain ⟨y, hy⟩ : ∃ y, sumZ f k = y := ⟨_, rfl⟩
      have HM := Lib.hid (show sumZ f (k + 1) = y + x by show sumZ f k + f k = _; rw [hx, hy])
      have h1 := HBD.out k hlt
      have h2 := sumZ_bd (f := f) (B := 1000000000000) k (fun i hi => HBD.out i (by omega))
      rw [hx] at h1
      rw [hy] at h2
      rw [hx] at hcell
      rw [hy]
      have w1 : IntKind.i64.wrap (y + x) = y + x := wrap_mid (by omega) (by omega)
      have w2 := wrap_addN (a := p) (b := k) (by omega) (by omega)
      obtain ⟨pk, hpk⟩ : ∃ pk, p + k = pk := ⟨_, rfl⟩
      rw [hpk] at hcell w2
      have g1 : (0 : Int) ≤ (pk : Int) := by omega
      have g2 : (pk : Int) < (zs.length : Int) := by omega
      clear hx hy hc h1 h2 hw hpk
      go_wp2
      go_quiet (fail)
      go_wp2
      go_roundw
      case rel => exact ⟨k + 1, _, by omega, by go_num, by rw [HM.out], by rw [HW.out, World.drewN_drewN]⟩
      case measure => simp [intOf]; omega
    · obtain rfl : m = k := by omega
      clear hw
      go_wp2
      go_ret
      exact ⟨by rw [← HV.out]; rfl, _, HW.out⟩
set_option maxHeartbeats 1000000 in
theorem c_spec_l03Row_vC (b m d r : Nat) (S : Int) (a : Option Addr) (n cap : Nat) (zs : List Int) (w : World) (ok : CellsOk m d S zs) (hr : r < d) (hb : Box w b 57 #[.int .i64 m, .int .i64 d, .int .i64 S, .slice a n cap]) (h : Reads w a n (ints zs)) {v ri : Int} (hri : (r : Int) = ri) (hv : sumZ (fun i => zs[r * m + i]?.getD 0) m = v) :
    Calls Try.prog 176 #[.pointer (some ⟨b, 0, none⟩), .int .i64 ri] w fun e w' => e = .returned (.int .i64 v) ∧ ∃ q, w' = w.drewN q := by
  subst hri; exact c_spec_l03RowC b m d r S a n cap zs w ok hr hb h hv
end Go.Proofs.Ytfbapbgiegploaa
