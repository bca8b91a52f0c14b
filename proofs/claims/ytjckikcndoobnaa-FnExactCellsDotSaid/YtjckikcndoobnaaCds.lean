/- CellsDot on the text's side. -/
import Derived.Test.YtjckikcndoobnaaCdt
import Derived.Test.YtjckikcndoobnaaLke
namespace Go.Proofs.Ytjckikcndoobnaa
open Go.ChangeShapes Go.WideShapes Go.ChangeAt Go.RowKit
set_option linter.unusedVariables false
set_option maxRecDepth 100000 in
set_option maxHeartbeats 4000000 in
theorem c_spec_CellsDot (W D S : Int) (a : Option Addr) (n cap : Nat) (zs : List Int) (W' D' S' : Int) (a' : Option Addr) (n' cap' : Nat) (ys : List Int) (w : World) {v : Int} {b : Bool} (hv : cdotR W D S zs W' D' S' ys = (v, b)) (hm : n ≤ maxLen) (hcap : n ≤ cap ∧ cap ≤ maxLen) (h : Reads w a n (ints zs)) (hm' : n' ≤ maxLen) (hcap' : n' ≤ cap' ∧ cap' ≤ maxLen) (h' : Reads w a' n' (ints ys)) :
    Calls Try.prog 41 #[.agg #[.int .i64 W, .int .i64 D, .int .i64 S, .slice a n cap], .agg #[.int .i64 W', .int .i64 D', .int .i64 S', .slice a' n' cap']] w fun e w' => e = .returned (.tuple #[.int .i64 v, .bool b]) ∧ Ext w w' := by
  have H := Lib.hid h
  have H' := Lib.hid h'
  have HM := Lib.hid hm
  have HM' := Lib.hid hm'
  have BX := Lib.hid ((Box.alloc w #[.int .i64 W, .int .i64 D, .int .i64 S, .slice a n cap] 27).past (.cells #[.int .i64 W', .int .i64 D', .int .i64 S', .slice a' n' cap'] 27))
  have BY := Lib.hid (Box.alloc_at (w.alloc (.cells #[.int .i64 W, .int .i64 D, .int .i64 S, .slice a n cap] 27)) #[.int .i64 W', .int .i64 D', .int .i64 S', .slice a' n' cap'] 27 (b := w.heap.size + 1) (by simp))
  clear h hm hcap h' hm' hcap'
  cases hg : mergeB W D S zs W' D' S' ys
  · rw [cdotR_no (by unfold dotsB; rw [hg]; rfl)] at hv
    simp only [Prod.mk.injEq] at hv
    obtain ⟨rfl, rfl⟩ := hv
    have HG := Lib.hid hg
    clear hg
    go_enter Try.func41, Try.ntmps41
    go_wp2_with (go_at_call 80; refine (c_spec_l03Like w.heap.size (w.heap.size + 1) _ _ _ _ n cap zs _ _ _ _ n' cap' ys _ HG.out HM.out (H.out.on (by (repeat (first | assumption | exact Ext.refl _ | (with_reducible refine Ext.stepS ?_ (by first | exact Nat.le_refl _ | (simp; done) | (simp; omega)) _) | (with_reducible refine Ext.stepN ?_ _) | (with_reducible refine Ext.stepD ?_) | (with_reducible refine Ext.stepA ?_ _))))) HM'.out (H'.out.on (by (repeat (first | assumption | exact Ext.refl _ | (with_reducible refine Ext.stepS ?_ (by first | exact Nat.le_refl _ | (simp; done) | (simp; omega)) _) | (with_reducible refine Ext.stepN ?_ _) | (with_reducible refine Ext.stepD ?_) | (with_reducible refine Ext.stepA ?_ _))))) BX.out BY.out).mono ?_; rintro e u1 ⟨rfl, q, rfl⟩)
    go_ret2
    exact ⟨rfl, by (repeat (first | assumption | exact Ext.refl _ | (with_reducible refine Ext.stepS ?_ (by first | exact Nat.le_refl _ | (simp; done) | (simp; omega)) _) | (with_reducible refine Ext.stepN ?_ _) | (with_reducible refine Ext.stepD ?_) | (with_reducible refine Ext.stepA ?_ _)))⟩
  · have hg2 := hg
    unfold mergeB at hg2
    simp only [Bool.and_eq_true] at hg2
    have HN := Lib.hid (show n ≤ 1048576 by obtain ⟨m, d, e1, e2, ok⟩ := cells_ok hg2.1.1; have := ok.le; have := H.out.int.1; omega)
    have HN' := Lib.hid (show n' ≤ 1048576 by obtain ⟨m, d, e1, e2, ok⟩ := cells_ok hg2.1.2; have := ok.le; have := H'.out.int.1; omega)
    clear hg2
    cases hz : manyB 1000000 zs
    · rw [cdotR_no (by unfold dotsB; rw [hg, hz]; rfl)] at hv
      simp only [Prod.mk.injEq] at hv
      obtain ⟨rfl, rfl⟩ := hv
      have HG := Lib.hid hg
      have HZ := Lib.hid hz
      clear hg hz
      go_enter Try.func41, Try.ntmps41
      go_wp2_with (first | (go_at_call 80; refine (c_spec_l03Like w.heap.size (w.heap.size + 1) _ _ _ _ n cap zs _ _ _ _ n' cap' ys _ HG.out HM.out (H.out.on (by (repeat (first | assumption | exact Ext.refl _ | (with_reducible refine Ext.stepS ?_ (by first | exact Nat.le_refl _ | (simp; done) | (simp; omega)) _) | (with_reducible refine Ext.stepN ?_ _) | (with_reducible refine Ext.stepD ?_) | (with_reducible refine Ext.stepA ?_ _))))) HM'.out (H'.out.on (by (repeat (first | assumption | exact Ext.refl _ | (with_reducible refine Ext.stepS ?_ (by first | exact Nat.le_refl _ | (simp; done) | (simp; omega)) _) | (with_reducible refine Ext.stepN ?_ _) | (with_reducible refine Ext.stepD ?_) | (with_reducible refine Ext.stepA ?_ _))))) BX.out BY.out).mono ?_; rintro e u1 ⟨rfl, q, rfl⟩) | (go_at_call_of 84 (Value.pointer (some ⟨w.heap.size, 0, none⟩)); refine (c_spec_l03Small w.heap.size _ _ _ _ n cap zs _ HZ.out HN.out (BX.out.on (by (repeat (first | assumption | exact Ext.refl _ | (with_reducible refine Ext.stepS ?_ (by first | exact Nat.le_refl _ | (simp; done) | (simp; omega)) _) | (with_reducible refine Ext.stepN ?_ _) | (with_reducible refine Ext.stepD ?_) | (with_reducible refine Ext.stepA ?_ _))))) (H.out.on (by (repeat (first | assumption | exact Ext.refl _ | (with_reducible refine Ext.stepS ?_ (by first | exact Nat.le_refl _ | (simp; done) | (simp; omega)) _) | (with_reducible refine Ext.stepN ?_ _) | (with_reducible refine Ext.stepD ?_) | (with_reducible refine Ext.stepA ?_ _)))))).mono ?_; rintro e w9 ⟨rfl, rfl⟩))
      go_ret2
      exact ⟨rfl, by (repeat (first | assumption | exact Ext.refl _ | (with_reducible refine Ext.stepS ?_ (by first | exact Nat.le_refl _ | (simp; done) | (simp; omega)) _) | (with_reducible refine Ext.stepN ?_ _) | (with_reducible refine Ext.stepD ?_) | (with_reducible refine Ext.stepA ?_ _)))⟩
    · cases hy : manyB 1000000 ys
      · rw [cdotR_no (by unfold dotsB; rw [hg, hz, hy]; rfl)] at hv
        simp only [Prod.mk.injEq] at hv
        obtain ⟨rfl, rfl⟩ := hv
        have HG := Lib.hid hg
        have HZ := Lib.hid hz
        have HY := Lib.hid hy
        clear hg hz hy
        go_enter Try.func41, Try.ntmps41
        go_wp2_with (first | (go_at_call 80; refine (c_spec_l03Like w.heap.size (w.heap.size + 1) _ _ _ _ n cap zs _ _ _ _ n' cap' ys _ HG.out HM.out (H.out.on (by (repeat (first | assumption | exact Ext.refl _ | (with_reducible refine Ext.stepS ?_ (by first | exact Nat.le_refl _ | (simp; done) | (simp; omega)) _) | (with_reducible refine Ext.stepN ?_ _) | (with_reducible refine Ext.stepD ?_) | (with_reducible refine Ext.stepA ?_ _))))) HM'.out (H'.out.on (by (repeat (first | assumption | exact Ext.refl _ | (with_reducible refine Ext.stepS ?_ (by first | exact Nat.le_refl _ | (simp; done) | (simp; omega)) _) | (with_reducible refine Ext.stepN ?_ _) | (with_reducible refine Ext.stepD ?_) | (with_reducible refine Ext.stepA ?_ _))))) BX.out BY.out).mono ?_; rintro e u1 ⟨rfl, q, rfl⟩) | (go_at_call_of 84 (Value.pointer (some ⟨w.heap.size, 0, none⟩)); refine (c_spec_l03Small w.heap.size _ _ _ _ n cap zs _ HZ.out HN.out (BX.out.on (by (repeat (first | assumption | exact Ext.refl _ | (with_reducible refine Ext.stepS ?_ (by first | exact Nat.le_refl _ | (simp; done) | (simp; omega)) _) | (with_reducible refine Ext.stepN ?_ _) | (with_reducible refine Ext.stepD ?_) | (with_reducible refine Ext.stepA ?_ _))))) (H.out.on (by (repeat (first | assumption | exact Ext.refl _ | (with_reducible refine Ext.stepS ?_ (by first | exact Nat.le_refl _ | (simp; done) | (simp; omega)) _) | (with_reducible refine Ext.stepN ?_ _) | (with_reducible refine Ext.stepD ?_) | (with_reducible refine Ext.stepA ?_ _)))))).mono ?_; rintro e w9 ⟨rfl, rfl⟩) | (go_at_call 84; refine (c_spec_l03Small (w.heap.size + 1) _ _ _ _ n' cap' ys _ HY.out HN'.out (BY.out.on (by (repeat (first | assumption | exact Ext.refl _ | (with_reducible refine Ext.stepS ?_ (by first | exact Nat.le_refl _ | (simp; done) | (simp; omega)) _) | (with_reducible refine Ext.stepN ?_ _) | (with_reducible refine Ext.stepD ?_) | (with_reducible refine Ext.stepA ?_ _))))) (H'.out.on (by (repeat (first | assumption | exact Ext.refl _ | (with_reducible refine Ext.stepS ?_ (by first | exact Nat.le_refl _ | (simp; done) | (simp; omega)) _) | (with_reducible refine Ext.stepN ?_ _) | (with_reducible refine Ext.stepD ?_) | (with_reducible refine Ext.stepA ?_ _)))))).mono ?_; rintro e w9 ⟨rfl, rfl⟩))
        go_ret2
        exact ⟨rfl, by (repeat (first | assumption | exact Ext.refl _ | (with_reducible refine Ext.stepS ?_ (by first | exact Nat.le_refl _ | (simp; done) | (simp; omega)) _) | (with_reducible refine Ext.stepN ?_ _) | (with_reducible refine Ext.stepD ?_) | (with_reducible refine Ext.stepA ?_ _)))⟩
      · have hb : dotsB W D S zs W' D' S' ys = true := by unfold dotsB; rw [hg, hz, hy]; rfl
        have HG := Lib.hid hg
        have HZ := Lib.hid hz
        have HY := Lib.hid hy
        clear hg hz hy
        obtain ⟨m, d, rfl, rfl, rfl, rfl, rfl, ok, ok', _, _⟩ := dots_ok hb
        rw [cdotR_y hb] at hv
        simp only [Prod.mk.injEq] at hv
        obtain ⟨rfl, rfl⟩ := hv
        have hz := H.out.int.1
        have hy := H'.out.int.1
        have HLZ := Lib.hid (show n = m * d from hz.symm.trans ok.len)
        have HLY := Lib.hid (show n' = m * d from hy.symm.trans ok'.len)
        have hd1 := ok.d1
        have hd6 := ok.d6
        have hm2 := ok.m2
        have m64 := ok.m64
        have OK := Lib.hid ok
        have OK' := Lib.hid ok'
        have hpos : 0 < m * d := Nat.mul_pos (by omega) (by omega)
        obtain ⟨ab, ao, rfl, hra⟩ : ∃ b off, a = some ⟨b, off, none⟩ ∧ ∀ i, i < n → w.cell? ⟨b, off + i, none⟩ = some (.int .i64 (zs[i]?.getD 0)) := by
          rcases H.out.int.2 with h0 | hq
          · rw [HLZ.out] at h0; omega
          · exact hq
        obtain ⟨bb, bo, rfl, hrb⟩ : ∃ b off, a' = some ⟨b, off, none⟩ ∧ ∀ i, i < n' → w.cell? ⟨b, off + i, none⟩ = some (.int .i64 (ys[i]?.getD 0)) := by
          rcases H'.out.int.2 with h0 | hq
          · rw [HLY.out] at h0; omega
          · exact hq
        have RA := Lib.hid hra
        have RB := Lib.hid hrb
        clear hb hz hy hpos hra hrb ok ok'
        go_enter Try.func41, Try.ntmps41
        go_wp2_with (first | (go_at_call 80; refine (c_spec_l03Like w.heap.size (w.heap.size + 1) _ _ _ _ n cap zs _ _ _ _ n' cap' ys _ HG.out HM.out (H.out.on (by (repeat (first | assumption | exact Ext.refl _ | (with_reducible refine Ext.stepS ?_ (by first | exact Nat.le_refl _ | (simp; done) | (simp; omega)) _) | (with_reducible refine Ext.stepN ?_ _) | (with_reducible refine Ext.stepD ?_) | (with_reducible refine Ext.stepA ?_ _))))) HM'.out (H'.out.on (by (repeat (first | assumption | exact Ext.refl _ | (with_reducible refine Ext.stepS ?_ (by first | exact Nat.le_refl _ | (simp; done) | (simp; omega)) _) | (with_reducible refine Ext.stepN ?_ _) | (with_reducible refine Ext.stepD ?_) | (with_reducible refine Ext.stepA ?_ _))))) BX.out BY.out).mono ?_; rintro e u1 ⟨rfl, q, rfl⟩) | (go_at_call_of 84 (Value.pointer (some ⟨w.heap.size, 0, none⟩)); refine (c_spec_l03Small w.heap.size _ _ _ _ n cap zs _ HZ.out HN.out (BX.out.on (by (repeat (first | assumption | exact Ext.refl _ | (with_reducible refine Ext.stepS ?_ (by first | exact Nat.le_refl _ | (simp; done) | (simp; omega)) _) | (with_reducible refine Ext.stepN ?_ _) | (with_reducible refine Ext.stepD ?_) | (with_reducible refine Ext.stepA ?_ _))))) (H.out.on (by (repeat (first | assumption | exact Ext.refl _ | (with_reducible refine Ext.stepS ?_ (by first | exact Nat.le_refl _ | (simp; done) | (simp; omega)) _) | (with_reducible refine Ext.stepN ?_ _) | (with_reducible refine Ext.stepD ?_) | (with_reducible refine Ext.stepA ?_ _)))))).mono ?_; rintro e w9 ⟨rfl, rfl⟩) | (go_at_call 84; refine (c_spec_l03Small (w.heap.size + 1) _ _ _ _ n' cap' ys _ HY.out HN'.out (BY.out.on (by (repeat (first | assumption | exact Ext.refl _ | (with_reducible refine Ext.stepS ?_ (by first | exact Nat.le_refl _ | (simp; done) | (simp; omega)) _) | (with_reducible refine Ext.stepN ?_ _) | (with_reducible refine Ext.stepD ?_) | (with_reducible refine Ext.stepA ?_ _))))) (H'.out.on (by (repeat (first | assumption | exact Ext.refl _ | (with_reducible refine Ext.stepS ?_ (by first | exact Nat.le_refl _ | (simp; done) | (simp; omega)) _) | (with_reducible refine Ext.stepN ?_ _) | (with_reducible refine Ext.stepD ?_) | (with_reducible refine Ext.stepA ?_ _)))))).mono ?_; rintro e w9 ⟨rfl, rfl⟩))
        go_loopw [6, 7] (fun s i wr => ∃ k : Nat, k ≤ d ∧ i = .int .i64 k ∧ s = .int .i64 (minF (dotRow m zs ys) k) ∧ Ext ((w.alloc (.cells #[.int .i64 m, .int .i64 d, .int .i64 S', .slice (some ⟨ab, ao, none⟩) n cap] 27)).alloc (.cells #[.int .i64 m, .int .i64 d, .int .i64 S', .slice (some ⟨bb, bo, none⟩) n' cap'] 27)) wr) (fun _ i _ => d - (intOf i).toNat)
        case atStart => exact ⟨0, Nat.zero_le _, rfl, rfl, by (repeat (first | assumption | exact Ext.refl _ | (with_reducible refine Ext.stepS ?_ (by first | exact Nat.le_refl _ | (simp; done) | (simp; omega)) _) | (with_reducible refine Ext.stepN ?_ _) | (with_reducible refine Ext.stepD ?_) | (with_reducible refine Ext.stepA ?_ _)))⟩
        case round =>
          obtain ⟨k, hk, rfl, rfl, hext⟩ := hrel
          have HE := Lib.hid hext
          obtain ⟨b0, b1, b2, b3⟩ := (BX.out.on hext).four
          clear hext
          obtain ⟨y0, hy0⟩ : ∃ y, minF (dotRow m zs ys) k = y := ⟨_, rfl⟩
          have HY0 := Lib.hid hy0
          rw [hy0]
          clear hy0
          by_cases hlt : k < d
          · have R1 := Lib.hid (show (k + 1) * m ≤ n by rw [HLZ.out, Nat.mul_comm m d]; exact Nat.mul_le_mul_right m hlt)
            have R2 := Lib.hid (show (k + 1) * m ≤ n' by rw [HLY.out, Nat.mul_comm m d]; exact Nat.mul_le_mul_right m hlt)
            obtain ⟨F, hF⟩ : ∃ F : Nat → Int, (fun i => zs[k * m + i]?.getD 0 * ys[k * m + i]?.getD 0) = F := ⟨_, rfl⟩
            have HF := Lib.hid (show ∀ i, zs[k * m + i]?.getD 0 * ys[k * m + i]?.getD 0 = F i from fun i => congrFun hF i)
            have HBD := Lib.hid (show ∀ i, i < m → -1000000000000 ≤ F i ∧ F i ≤ 1000000000000 from fun i hi => by rw [← HF.out]; exact dotRow_bd OK.out OK'.out HZ.out HY.out hlt i hi)
            have HDR := Lib.hid (show dotRow m zs ys k = sumZ F m by unfold dotRow; rw [hF])
            have f1 := wrap_mulN (i := k) (m := m) (by omega) m64
            have hpl : k * m ≤ 6 * 64 := Nat.mul_le_mul (by omega) m64
            obtain ⟨p, hp⟩ : ∃ p, k * m = p := ⟨_, rfl⟩
            rw [hp] at f1 hpl
            have f1' : (k : Int) * (m : Int) = (p : Int) := by rw [← Int.natCast_mul, hp]
            have HP := Lib.hid hp
            clear hF hp
            go_wp2
            go_loopw [8, 9] (fun s i wr => ∃ j : Nat, j ≤ m ∧ i = .int .i64 j ∧ s = .int .i64 (sumZ F j) ∧ Ext ((w.alloc (.cells #[.int .i64 m, .int .i64 d, .int .i64 S', .slice (some ⟨ab, ao, none⟩) n cap] 27)).alloc (.cells #[.int .i64 m, .int .i64 d, .int .i64 S', .slice (some ⟨bb, bo, none⟩) n' cap'] 27)) wr) (fun _ i _ => m - (intOf i).toNat)
            case atStart => exact ⟨0, Nat.zero_le _, rfl, rfl, by have := HE.out; (repeat (first | assumption | exact Ext.refl _ | (with_reducible refine Ext.stepS ?_ (by first | exact Nat.le_refl _ | (simp; done) | (simp; omega)) _) | (with_reducible refine Ext.stepN ?_ _) | (with_reducible refine Ext.stepD ?_) | (with_reducible refine Ext.stepA ?_ _)))⟩
            case round =>
              obtain ⟨j, hj, rfl, rfl, hext⟩ := hrel
              have HE2 := Lib.hid hext
              clear b0 b1 b2 b3
              obtain ⟨b0, b1, b2, b3⟩ := (BX.out.on hext).four
              obtain ⟨c0, c1, c2, c3⟩ := (BY.out.on hext).four
              clear hext
              obtain ⟨s, hs⟩ : ∃ s, sumZ F j = s := ⟨_, rfl⟩
              have HSS := Lib.hid hs
              rw [hs]
              clear hs
              by_cases hlj : j < m
              · have hpn : p + j < n := by have h1 := R1.out; rw [Nat.add_mul, Nat.one_mul, HP.out] at h1; omega
                have hpn' : p + j < n' := by have h1 := R2.out; rw [Nat.add_mul, Nat.one_mul, HP.out] at h1; omega
                have hac := cellOn (RA.out (p + j) hpn) (Ext.trans (by (repeat (first | assumption | exact Ext.refl _ | (with_reducible refine Ext.stepS ?_ (by first | exact Nat.le_refl _ | (simp; done) | (simp; omega)) _) | (with_reducible refine Ext.stepN ?_ _) | (with_reducible refine Ext.stepD ?_) | (with_reducible refine Ext.stepA ?_ _))) : Ext w ((w.alloc (.cells #[.int .i64 m, .int .i64 d, .int .i64 S', .slice (some ⟨ab, ao, none⟩) n cap] 27)).alloc (.cells #[.int .i64 m, .int .i64 d, .int .i64 S', .slice (some ⟨bb, bo, none⟩) n' cap'] 27))) HE2.out)
                have hbc := cellOn (RB.out (p + j) hpn') (Ext.trans (by (repeat (first | assumption | exact Ext.refl _ | (with_reducible refine Ext.stepS ?_ (by first | exact Nat.le_refl _ | (simp; done) | (simp; omega)) _) | (with_reducible refine Ext.stepN ?_ _) | (with_reducible refine Ext.stepD ?_) | (with_reducible refine Ext.stepA ?_ _))) : Ext w ((w.alloc (.cells #[.int .i64 m, .int .i64 d, .int .i64 S', .slice (some ⟨ab, ao, none⟩) n cap] 27)).alloc (.cells #[.int .i64 m, .int .i64 d, .int .i64 S', .slice (some ⟨bb, bo, none⟩) n' cap'] 27))) HE2.out)
                obtain ⟨x, hx⟩ : ∃ x, zs[p + j]?.getD 0 = x := ⟨_, rfl⟩
                obtain ⟨y, hy⟩ : ∃ y, ys[p + j]?.getD 0 = y := ⟨_, rfl⟩
                rw [hx] at hac
                rw [hy] at hbc
                have hFj : F j = x * y := by rw [← HF.out, HP.out, hx, hy]
                have hb1 := HBD.out j hlj
                rw [hFj] at hb1
                have hb2 := sumZ_bd (f := F) (B := 1000000000000) j (fun i hi => HBD.out i (by omega))
                rw [HSS.out] at hb2
                obtain ⟨pr, hpr⟩ : ∃ q, x * y = q := ⟨_, rfl⟩
                rw [hpr] at hb1 hFj
                obtain ⟨pj, hpj⟩ : ∃ q, p + j = q := ⟨_, rfl⟩
                have w2 := wrap_addN (a := p) (b := j) (by omega) (by omega)
                have w2' : (p : Int) + (j : Int) = (pj : Int) := by omega
                rw [hpj] at hac hbc w2
                have w3 : IntKind.i64.wrap (x * y) = pr := by rw [hpr]; exact wrap_mid (by omega) (by omega)
                have w4 : IntKind.i64.wrap (s + pr) = s + pr := wrap_mid (by omega) (by omega)
                have HSUM := Lib.hid (show sumZ F (j + 1) = s + pr by show sumZ F j + F j = _; rw [HSS.out, hFj])
                have l1 : (pj : Int) < (n : Int) := by omega
                have l2 : (pj : Int) < (n' : Int) := by omega
                have l3 : (0 : Int) ≤ (pj : Int) := by omega
                clear hx hy hpn hpn' hFj hb1 hb2 hpr hpj
                go_wp2
                go_quiet (fail)
                go_wp2
                go_roundw
                case rel => exact ⟨j + 1, by omega, by go_num, by rw [HSUM.out], by have := HE2.out; (repeat (first | assumption | exact Ext.refl _ | (with_reducible refine Ext.stepS ?_ (by first | exact Nat.le_refl _ | (simp; done) | (simp; omega)) _) | (with_reducible refine Ext.stepN ?_ _) | (with_reducible refine Ext.stepD ?_) | (with_reducible refine Ext.stepA ?_ _)))⟩
                case measure => simp [intOf]; omega
              · obtain rfl : m = j := by omega
                clear c0 c1 c2 c3
                have HDS := Lib.hid (show dotRow m zs ys k = s by rw [HDR.out, HSS.out])
                by_cases hk0 : k = 0
                · subst hk0
                  have HMN := Lib.hid (show minF (dotRow m zs ys) (0 + 1) = s by rw [Nat.zero_add, minF_one, HDS.out])
                  go_wp2
                  go_roundw
                  case rel => exact ⟨0 + 1, by omega, by go_num, by rw [HMN.out], by have := HE2.out; (repeat (first | assumption | exact Ext.refl _ | (with_reducible refine Ext.stepS ?_ (by first | exact Nat.le_refl _ | (simp; done) | (simp; omega)) _) | (with_reducible refine Ext.stepN ?_ _) | (with_reducible refine Ext.stepD ?_) | (with_reducible refine Ext.stepA ?_ _)))⟩
                  case measure => simp [intOf]; omega
                · have k0 : ¬ (k : Int) = 0 := by omega
                  by_cases hls : s < y0
                  · have HMN := Lib.hid (show minF (dotRow m zs ys) (k + 1) = s by rw [minF_lt _ k (by rw [HDS.out, HY0.out]; exact hls), HDS.out])
                    go_wp2
                    go_roundw
                    case rel => exact ⟨k + 1, by omega, by go_num, by rw [HMN.out], by have := HE2.out; (repeat (first | assumption | exact Ext.refl _ | (with_reducible refine Ext.stepS ?_ (by first | exact Nat.le_refl _ | (simp; done) | (simp; omega)) _) | (with_reducible refine Ext.stepN ?_ _) | (with_reducible refine Ext.stepD ?_) | (with_reducible refine Ext.stepA ?_ _)))⟩
                    case measure => simp [intOf]; omega
                  · have HMN := Lib.hid (show minF (dotRow m zs ys) (k + 1) = y0 by rw [minF_ge _ k hk0 (by rw [HDS.out, HY0.out]; exact hls), HY0.out])
                    go_wp2
                    go_roundw
                    case rel => exact ⟨k + 1, by omega, by go_num, by rw [HMN.out], by have := HE2.out; (repeat (first | assumption | exact Ext.refl _ | (with_reducible refine Ext.stepS ?_ (by first | exact Nat.le_refl _ | (simp; done) | (simp; omega)) _) | (with_reducible refine Ext.stepN ?_ _) | (with_reducible refine Ext.stepD ?_) | (with_reducible refine Ext.stepA ?_ _)))⟩
                    case measure => simp [intOf]; omega
          · obtain rfl : k = d := by omega
            go_wp2
            go_ret2
            exact ⟨(congrArg (fun z => Ending.returned (.tuple #[.int .i64 z, .bool true])) HY0.out.symm), Ext.trans (Ext.trans (Ext.alloc _ _) (Ext.alloc _ _)) HE.out⟩
end Go.Proofs.Ytjckikcndoobnaa
