/- the products of rows, on the program's side: both lists lie. -/
import Derived.Test.YtjckikcndoobnaaRdt
namespace Go.Proofs.Ytjckikcndoobnaa
open Go.ChangeShapes Go.WideShapes Go.ChangeAt Go.RowKit
set_option linter.unusedVariables false
theorem dotRow_bd {m d : Nat} {S : Int} {zs ys : List Int} (h1 : CellsOk m d S zs) (h2 : CellsOk m d S ys) (s1 : manyB 1000000 zs = true) (s2 : manyB 1000000 ys = true) {k : Nat} (hk : k < d) : ∀ i, i < m → -1000000000000 ≤ zs[k * m + i]?.getD 0 * ys[k * m + i]?.getD 0 ∧ zs[k * m + i]?.getD 0 * ys[k * m + i]?.getD 0 ≤ 1000000000000 := by
  intro i hi
  have hrow : (k + 1) * m ≤ d * m := Nat.mul_le_mul_right m hk
  rw [Nat.add_mul, Nat.one_mul, Nat.mul_comm d m] at hrow
  have a1 := manyB_at s1 (i := k * m + i) (by rw [h1.len]; omega)
  have a2 := manyB_at s2 (i := k * m + i) (by rw [h2.len]; omega)
  exact prod_bd a1.1 a1.2 a2.1 a2.2
set_option maxRecDepth 100000 in
set_option maxHeartbeats 8000000 in
theorem c_impl_rowDots (m d : Nat) (S : Int) (a : Option Addr) (n cap : Nat) (zs : List Int) (a' : Option Addr) (n' cap' : Nat) (ys : List Int) (w : World) (ok : CellsOk m d S zs) (ok' : CellsOk m d S ys) (hs : manyB 1000000 zs = true) (hs' : manyB 1000000 ys = true) (hm : n ≤ maxLen) (hcap : n ≤ cap ∧ cap ≤ maxLen) (h : Reads w a n (ints zs)) (hm' : n' ≤ maxLen) (hcap' : n' ≤ cap' ∧ cap' ≤ maxLen) (h' : Reads w a' n' (ints ys)) :
    Calls Try.prog 85 #[.agg #[.int .i64 m, .int .i64 d, .int .i64 S, .slice a n cap], .agg #[.int .i64 m, .int .i64 d, .int .i64 S, .slice a' n' cap']] w (RetSB 2 d (ints (dotsZ m d zs ys)) true w) := by
  have HC := Lib.hid hcap
  have HC' := Lib.hid hcap'
  have HG := Lib.hid (show mergeB m d S zs m d S ys = true by unfold mergeB; rw [ok.cellsB, ok'.cellsB]; unfold shapeB; simp)
  have HZ := Lib.hid hs
  have HY := Lib.hid hs'
  have OK := Lib.hid ok
  have OK' := Lib.hid ok'
  have hz := h.int.1
  have hy := h'.int.1
  have HLZ := Lib.hid (show n = m * d from hz.symm.trans ok.len)
  have HLY := Lib.hid (show n' = m * d from hy.symm.trans ok'.len)
  have hd1 := ok.d1
  have hd6 := ok.d6
  have hm2 := ok.m2
  have m64 := ok.m64
  have hpos : 0 < m * d := Nat.mul_pos (by omega) (by omega)
  obtain ⟨ab, ao, rfl, hra⟩ : ∃ b off, a = some ⟨b, off, none⟩ ∧ ∀ i, i < n → w.cell? ⟨b, off + i, none⟩ = some (.int .i64 (zs[i]?.getD 0)) := by
    rcases h.int.2 with h0 | hq
    · rw [HLZ.out] at h0; omega
    · exact hq
  obtain ⟨bb, bo, rfl, hrb⟩ : ∃ b off, a' = some ⟨b, off, none⟩ ∧ ∀ i, i < n' → w.cell? ⟨b, off + i, none⟩ = some (.int .i64 (ys[i]?.getD 0)) := by
    rcases h'.int.2 with h0 | hq
    · rw [HLY.out] at h0; omega
    · exact hq
  have RA := Lib.hid hra
  have RB := Lib.hid hrb
  have H := Lib.hid h
  have H' := Lib.hid h'
  have HM := Lib.hid hm
  have HM' := Lib.hid hm'
  have BX := Lib.hid ((Box.alloc w #[.int .i64 m, .int .i64 d, .int .i64 S, .slice (some ⟨ab, ao, none⟩) n cap] 27).past (.cells #[.int .i64 m, .int .i64 d, .int .i64 S, .slice (some ⟨bb, bo, none⟩) n' cap'] 27))
  have BY := Lib.hid (Box.alloc_at (w.alloc (.cells #[.int .i64 m, .int .i64 d, .int .i64 S, .slice (some ⟨ab, ao, none⟩) n cap] 27)) #[.int .i64 m, .int .i64 d, .int .i64 S, .slice (some ⟨bb, bo, none⟩) n' cap'] 27 (b := w.heap.size + 1) (by simp))
  have hmk := run_make_row' (P := Try.prog) 22 2 (.int .i64 0) 8 Try.underlying22 info_i64 rfl .i64 .i64 d (by omega) (by omega)
  have HMK := Lib.hid hmk
  clear h h' hm hm' hs hs' ok ok' hra hrb hcap hcap' hpos hz hy hmk
  go_enter Try.func85, Try.ntmps85
  go_wp2_with fail
  refine (c_impl_canMerge m d S (some ⟨ab, ao, none⟩) n cap zs m d S (some ⟨bb, bo, none⟩) n' cap' ys _ HG.out HM.out (H.out.on (by (repeat (first | assumption | exact Ext.refl _ | (with_reducible refine Ext.stepS ?_ (by first | exact Nat.le_refl _ | (simp; done) | (simp; omega)) _) | (with_reducible refine Ext.stepN ?_ _) | (with_reducible refine Ext.stepD ?_) | (with_reducible refine Ext.stepA ?_ _))))) HM'.out (H'.out.on (by (repeat (first | assumption | exact Ext.refl _ | (with_reducible refine Ext.stepS ?_ (by first | exact Nat.le_refl _ | (simp; done) | (simp; omega)) _) | (with_reducible refine Ext.stepN ?_ _) | (with_reducible refine Ext.stepD ?_) | (with_reducible refine Ext.stepA ?_ _)))))).mono ?_; rintro e u1 ⟨rfl, x1⟩
  have EA : Ext ((w.alloc (.cells #[.int .i64 m, .int .i64 d, .int .i64 S, .slice (some ⟨ab, ao, none⟩) n cap] 27)).alloc (.cells #[.int .i64 m, .int .i64 d, .int .i64 S, .slice (some ⟨bb, bo, none⟩) n' cap'] 27)) u1 := Ext.trans (by (repeat (first | assumption | exact Ext.refl _ | (with_reducible refine Ext.stepS ?_ (by first | exact Nat.le_refl _ | (simp; done) | (simp; omega)) _) | (with_reducible refine Ext.stepN ?_ _) | (with_reducible refine Ext.stepD ?_) | (with_reducible refine Ext.stepA ?_ _)))) x1
  have EW : Ext w u1 := Ext.trans (by (repeat (first | assumption | exact Ext.refl _ | (with_reducible refine Ext.stepS ?_ (by first | exact Nat.le_refl _ | (simp; done) | (simp; omega)) _) | (with_reducible refine Ext.stepN ?_ _) | (with_reducible refine Ext.stepD ?_) | (with_reducible refine Ext.stepA ?_ _)))) x1
  have HSZ := Lib.hid (show w.heap.size + 2 ≤ u1.heap.size from Nat.le_trans (by first | omega | (simp; done) | (simp; omega)) EA.size)
  obtain ⟨ka0, ka1, ka2, ka3⟩ := (BX.out.on EA).four
  obtain ⟨kb0, kb1, kb2, kb3⟩ := (BY.out.on EA).four
  have HROW := Lib.hid (World.rowIs_made u1 (.int .i64 0) d 2)
  obtain ⟨g, hg⟩ : ∃ g, u1.heap.size = g := ⟨_, rfl⟩
  obtain ⟨wg, hwg⟩ : ∃ wg, u1.alloc (.cells (madeCells #[.int .i64 0] d) 2) = wg := ⟨_, rfl⟩
  have EG := Lib.hid (show Ext ((w.alloc (.cells #[.int .i64 m, .int .i64 d, .int .i64 S, .slice (some ⟨ab, ao, none⟩) n cap] 27)).alloc (.cells #[.int .i64 m, .int .i64 d, .int .i64 S, .slice (some ⟨bb, bo, none⟩) n' cap'] 27)) wg by rw [← hwg]; exact EA.stepA _)
  have EGW := Lib.hid (show Ext w wg by rw [← hwg]; exact EW.stepA _)
  rw [hwg, hg] at HROW
  have hmk2 : (Instr.makeSlice 22 (Value.int IntKind.i64 ↑d) (Value.int IntKind.i64 ↑d)).run Try.prog u1 = Result.ok (Value.slice (some ⟨g, 0, none⟩) d d) wg := by rw [← hwg, ← hg]; exact HMK.out u1
  rw [hg] at HSZ
  clear x1 hwg hg EA
  go_wp2_with (first | (go_at_call_of 56 (Value.slice (some ⟨ab, ao, none⟩) n cap); refine (c_impl_areWithin (some ⟨ab, ao, none⟩) n cap zs 1000000 _ (by decide) (by decide) HM.out HZ.out (H.out.on (by (repeat (first | assumption | exact Ext.refl _ | (with_reducible refine Ext.stepS ?_ (by first | exact Nat.le_refl _ | (simp; done) | (simp; omega)) _) | (with_reducible refine Ext.stepN ?_ _) | (with_reducible refine Ext.stepD ?_) | (with_reducible refine Ext.stepA ?_ _)))))).mono ?_; rintro e w9 ⟨rfl, rfl⟩) | (go_at_call_of 56 (Value.slice (some ⟨bb, bo, none⟩) n' cap'); refine (c_impl_areWithin (some ⟨bb, bo, none⟩) n' cap' ys 1000000 _ (by decide) (by decide) HM'.out HY.out (H'.out.on (by (repeat (first | assumption | exact Ext.refl _ | (with_reducible refine Ext.stepS ?_ (by first | exact Nat.le_refl _ | (simp; done) | (simp; omega)) _) | (with_reducible refine Ext.stepN ?_ _) | (with_reducible refine Ext.stepD ?_) | (with_reducible refine Ext.stepA ?_ _)))))).mono ?_; rintro e w9 ⟨rfl, rfl⟩))
  clear ka0 ka1 ka2 ka3 kb0 kb1 kb2 kb3 hmk2 EW
  go_loopw [32] (fun i wr => ∃ k : Nat, ∃ f : Nat → Value, k ≤ d ∧ i = .int .i64 k ∧ wr.rowIs g 2 d f ∧ (∀ r, r < k → f r = .int .i64 (dotRow m zs ys r)) ∧ (∀ r, k ≤ r → f r = .int .i64 0) ∧ Touch g (g + 1) wg wr) (fun i _ => d - (intOf i).toNat)
  case atStart => exact ⟨0, _, Nat.zero_le _, rfl, HROW.out, fun r hr => absurd hr (Nat.not_lt_zero _), fun r hr => rfl, Touch.refl _ _ _⟩
  case round =>
    obtain ⟨k, f, hk, rfl, hrow, hf1, hf2, ht⟩ := hrel
    have HR := Lib.hid hrow
    have HF1 := Lib.hid hf1
    have HF2 := Lib.hid hf2
    have HT := Lib.hid ht
    have EW := Lib.hid (show Ext w wr from Touch.ext EGW.out ht (by have := HSZ.out; omega))
    have E2 := Lib.hid (show Ext ((w.alloc (.cells #[.int .i64 m, .int .i64 d, .int .i64 S, .slice (some ⟨ab, ao, none⟩) n cap] 27)).alloc (.cells #[.int .i64 m, .int .i64 d, .int .i64 S, .slice (some ⟨bb, bo, none⟩) n' cap'] 27)) wr from Touch.ext EG.out ht (by have := HSZ.out; simp; omega))
    clear hrow hf1 hf2 ht
    by_cases hlt : k < d
    · have R1 := Lib.hid (show (k + 1) * m ≤ n by rw [HLZ.out, Nat.mul_comm m d]; exact Nat.mul_le_mul_right m hlt)
      have R2 := Lib.hid (show (k + 1) * m ≤ n' by rw [HLY.out, Nat.mul_comm m d]; exact Nat.mul_le_mul_right m hlt)
      obtain ⟨F, hF⟩ : ∃ F : Nat → Int, (fun i => zs[k * m + i]?.getD 0 * ys[k * m + i]?.getD 0) = F := ⟨_, rfl⟩
      have HF := Lib.hid (show ∀ i, zs[k * m + i]?.getD 0 * ys[k * m + i]?.getD 0 = F i from fun i => congrFun hF i)
      have HBD := Lib.hid (show ∀ i, i < m → -1000000000000 ≤ F i ∧ F i ≤ 1000000000000 from fun i hi => by rw [← HF.out]; exact dotRow_bd OK.out OK'.out HZ.out HY.out hlt i hi)
      have HDR := Lib.hid (show dotRow m zs ys k = sumZ F m by unfold dotRow; rw [hF])
      clear hF
      obtain ⟨b0, b1, b2, b3⟩ := (BX.out.on E2.out).four
      obtain ⟨c0, c1, c2, c3⟩ := (BY.out.on E2.out).four
      go_wp2_with fail
      refine (c_impl_rowOf_v m k d S bb bo n' cap' _ (by omega) m64 (by omega) R2.out HC'.out.1 HC'.out.2 rfl).mono ?_; rintro e u2 ⟨rfl, x2⟩
      clear b0 b1 b2 b3 c0 c1 c2 c3
      have E3 := Lib.hid (Ext.trans E2.out x2)
      obtain ⟨b0, b1, b2, b3⟩ := (BX.out.on E3.out).four
      have X2 := Lib.hid x2
      clear x2
      go_wp2_with fail
      refine (c_impl_rowOf_v m k d S ab ao n cap _ (by omega) m64 (by omega) R1.out HC.out.1 HC.out.2 rfl).mono ?_; rintro e u3 ⟨rfl, x3⟩
      clear b0 b1 b2 b3
      have X3 := Lib.hid x3
      have EW3 := Lib.hid (Ext.trans (Ext.trans EW.out X2.out) x3)
      have HR3 := Lib.hid (rowIs_on (rowIs_on HR.out X2.out) x3)
      have HG3 := Lib.hid (show w.heap.size ≤ g by have := HSZ.out; omega)
      have hpl : k * m ≤ 6 * 64 := Nat.mul_le_mul (by omega) m64
      obtain ⟨p, hp⟩ : ∃ p, k * m = p := ⟨_, rfl⟩
      rw [hp] at hpl ⊢
      have HP := Lib.hid hp
      clear x3 hp
      go_wp2
      go_loopw [42] (fun i wr => ∃ j : Nat, ∃ f2 : Nat → Value, j ≤ m ∧ i = .int .i64 j ∧ wr.rowIs g 2 d f2 ∧ f2 k = .int .i64 (sumZ F j) ∧ (∀ r, r ≠ k → f2 r = f r) ∧ Touch g (g + 1) u3 wr) (fun i _ => m - (intOf i).toNat)
      case atStart => exact ⟨0, f, Nat.zero_le _, rfl, HR3.out, HF2.out k (Nat.le_refl _), fun r hr => rfl, Touch.refl _ _ _⟩
      case round =>
        obtain ⟨j, f2, hj, rfl, hrow, hfk, hfo, ht⟩ := hrel
        have HRQ := Lib.hid hrow
        have HFK := Lib.hid hfk
        have HFO := Lib.hid hfo
        have HT2 := Lib.hid ht
        have EQ := Lib.hid (show Ext w wr from Touch.ext EW3.out ht HG3.out)
        clear hrow hfk hfo ht
        by_cases hlj : j < m
        · have hpn : p + j < n := by have h1 := R1.out; rw [Nat.add_mul, Nat.one_mul, HP.out] at h1; omega
          have hpn' : p + j < n' := by have h1 := R2.out; rw [Nat.add_mul, Nat.one_mul, HP.out] at h1; omega
          obtain ⟨x, hx⟩ : ∃ x, zs[p + j]?.getD 0 = x := ⟨_, rfl⟩
          obtain ⟨y, hy⟩ : ∃ y, ys[p + j]?.getD 0 = y := ⟨_, rfl⟩
          have hac := cellOn (RA.out (p + j) hpn) EQ.out
          have hbc := cellOn (RB.out (p + j) hpn') EQ.out
          rw [hx, ← Nat.add_assoc] at hac
          rw [hy, ← Nat.add_assoc] at hbc
          obtain ⟨s, hs⟩ : ∃ s, sumZ F j = s := ⟨_, rfl⟩
          have hgc := HRQ.out.cell (i := k) hlt
          rw [HFK.out, hs] at hgc
          have hfro := HRQ.out.frozen k
          have hFj : F j = x * y := by rw [← HF.out, HP.out, hx, hy]
          have hb1 := HBD.out j hlj
          rw [hFj] at hb1
          have hb2 := sumZ_bd (f := F) (B := 1000000000000) j (fun i hi => HBD.out i (by omega))
          rw [hs] at hb2
          obtain ⟨pr, hpr⟩ : ∃ q, x * y = q := ⟨_, rfl⟩
          rw [hpr] at hb1 hFj
          have w3 : IntKind.i64.wrap (x * y) = pr := by rw [hpr]; exact wrap_mid (by omega) (by omega)
          have w4 : IntKind.i64.wrap (s + pr) = s + pr := wrap_mid (by omega) (by omega)
          have HS := Lib.hid (HRQ.out.set k (.int .i64 (s + pr)))
          have HSUM := Lib.hid (show sumZ F (j + 1) = s + pr by show sumZ F j + F j = _; rw [hs, hFj])
          have l1 : (k : Int) < (d : Int) := by omega
          have l2 : (j : Int) < (m : Int) := by omega
          have l3 : (0 : Int) ≤ (k : Int) := by omega
          have l4 : (0 : Int) ≤ (j : Int) := by omega
          clear hx hy hs hpn hpn' hFj hb1 hb2 hpr
          go_wp2
          go_region
          all_goals
            go_wp2
            go_roundw
            case rel => exact ⟨j + 1, _, by omega, by go_num, HS.out, by simp only [if_pos]; rw [HSUM.out], fun r hr => by simp only [if_neg hr]; exact HFO.out r hr, (HT2.out.of_drew _).one _ _⟩
            case measure => simp [intOf]; omega
        · obtain rfl : m = j := by omega
          have HT3 := Lib.hid (Touch.trans (Touch.trans HT.out (Touch.of_ext (Ext.trans X2.out X3.out) g (g + 1))) HT2.out)
          go_wp2
          go_roundw
          case rel => exact ⟨k + 1, f2, by omega, by go_num, HRQ.out, fun r hr => by
            by_cases e : r = k
            · subst e; rw [HFK.out, HDR.out]
            · rw [HFO.out r e]; exact HF1.out r (by omega), fun r hr => by rw [HFO.out r (by omega)]; exact HF2.out r (by omega), HT3.out⟩
          case measure => simp [intOf]; omega
    · obtain rfl : k = d := by omega
      go_wp2
      go_ret2
      exact ⟨_, _, rfl, ⟨by rw [ints_length, dotsZ_length], Nat.le_refl _, .inr ⟨g, f, rfl, by have := HSZ.out; omega, HR.out.lt, HR.out, fun i hi => by rw [ints_get _ _ (by rw [dotsZ_length]; exact hi), dotsZ_get _ _ _ _ _ hi, HF1.out i hi]⟩⟩, EW.out⟩
end Go.Proofs.Ytjckikcndoobnaa
