/- CorrectedAt by the program. -/
import Derived.Test.YtfbapbgiegploaaCrc
namespace Go.Proofs.Ytfbapbgiegploaa
open Go.ChangeShapes Go.WideShapes Go.ChangeAt Go.RowKit Go.Proofs.Ytfbapbgiegploaa.Smg Go.Proofs.Ytfbapbgiegploaa.Flo
set_option linter.unusedVariables false
attribute [local go_sem] run_store_float
set_option maxRecDepth 100000 in
set_option maxHeartbeats 4000000 in
theorem c_impl_CorrectedAt (W D S : Int) (a : Option Addr) (n cap : Nat) (zs : List Int) (key : Int) (w : World) {v : Nat} {b : Bool} (hv : corR W D S zs key = (v, b)) (hm : n ≤ maxLen) (hcap : n ≤ cap ∧ cap ≤ maxLen) (h : Reads w a n (ints zs)) :
    Calls Try.prog 48 #[.agg #[.int .i64 W, .int .i64 D, .int .i64 S, .slice a n cap], .int .i64 key] w fun e w' => e = .returned (.tuple #[.float .f32 v, .bool b]) ∧ Ext w w' := by
  have H := Lib.hid h
  have BX := Lib.hid (Box.alloc w #[.int .i64 W, .int .i64 D, .int .i64 S, .slice a n cap] 57)
  by_cases hp : cellsB W D S zs = true ∧ keyB key = true
  · obtain ⟨m, d, rfl, rfl, ok⟩ := cells_ok hp.1
    rw [corR_y ok hp.2] at hv
    simp only [Prod.mk.injEq] at hv
    obtain ⟨rfl, rfl⟩ := hv
    have hd1 := ok.d1
    have hd6 := ok.d6
    have m2 := ok.m2
    have m64 := ok.m64
    have hz := h.int.1
    have hl4 := ok.le
    obtain ⟨ab, ao, rfl⟩ : ∃ b off, a = some ⟨b, off, none⟩ := by
      rcases h.2 with h0 | ⟨b', off', rfl, _⟩
      · have := ok.len; have := Nat.mul_le_mul m2 hd1; omega
      · exact ⟨_, _, rfl⟩
    have OK := Lib.hid ok
    have HK := Lib.hid hp.2
    have HZ := Lib.hid hz
    have HL := Lib.hid (corL_length m d S key zs)
    have HFB := Lib.hid (corL_fin (key := key) ok)
    have HG := Lib.hid (fun i => corL_get m d S key zs i)
    obtain ⟨L, hL⟩ : ∃ L, corL m d S zs key = L := ⟨_, rfl⟩
    rw [hL] at HL HFB HG ⊢
    obtain ⟨M, hM⟩ : ∃ M : Int, (m : Int) - 1 = M := ⟨_, rfl⟩
    have HM := Lib.hid hM
    have hmk := run_make_row' (P := Try.prog) 27 28 (.float .f32 0) 4 Try.underlying27 info_f32 rfl .i64 .i64 d (by omega) (by omega)
    clear ok hp h hL hz hM
    go_enter Try.func48, Try.ntmps48
    go_wp2_with fail
    refine (c_impl_countsAt m d S _ _ cap zs key _ OK.out HK.out (H.out.on (by (repeat (first | assumption | exact Ext.refl _ | (with_reducible refine Ext.stepS ?_ (by first | exact Nat.le_refl _ | (simp; done) | (simp; omega)) _) | (with_reducible refine Ext.stepN ?_ _) | (with_reducible refine Ext.stepD ?_) | (with_reducible refine Ext.stepA ?_ _)))))).mono ?_; rintro e wa ⟨pa, pc, rfl, o', x'⟩
    have X1 := Lib.hid (show Ext w wa from (Ext.alloc _ _).trans x')
    have BX1 := Lib.hid (BX.out.on x')
    have O1 := Lib.hid o'
    have HR0 := Lib.hid (World.rowIs_made wa (.float .f32 0) d 28)
    have HX0 := Lib.hid (Ext.alloc wa (.cells (madeCells #[.float .f32 0] d) 28))
    clear o' x'
    go_wp2
    go_loopw [25] (fun i wr => ∃ k : Nat, k ≤ d ∧ i = .int .i64 k ∧ wr.rowIs wa.heap.size 28 d (rowU L k) ∧ Ext wa wr) (fun i _ => d - (intOf i).toNat)
    case atStart => exact ⟨0, Nat.zero_le _, rfl, HR0.out.congr fun i hi => by unfold rowU; rw [if_neg (by omega)], HX0.out⟩
    case round =>
      obtain ⟨k, hk, rfl, hrow, hext⟩ := hrel
      have HRR := Lib.hid hrow
      have HEE := Lib.hid hext
      clear hrow hext
      by_cases hlt : k < d
      · have hltI : (k : Int) < (d : Int) := by omega
        obtain ⟨q, hq⟩ := OK.out.cor (key := key) hlt
        have hg := HG.out k hlt
        have h1 := OK.out.at2 key hlt
        have h2 := OK.out.sum hlt
        have hat := atZ_get m d S key zs k hlt
        obtain ⟨c, hc⟩ : ∃ c, zs[placeN m S key k]?.getD 0 = c := ⟨_, rfl⟩
        obtain ⟨s, hs⟩ : ∃ s, rowSum m zs k = s := ⟨_, rfl⟩
        rw [hc] at hq hg h1 hat
        rw [hs] at hq hg h2
        rw [HM.out] at hq hg
        obtain ⟨o, ho⟩ : ∃ o, s - c = o := ⟨_, rfl⟩
        rw [ho] at hq hg
        have hw : IntKind.i64.wrap (s - c) = o := by rw [← ho]; exact wrap_mid (by omega) (by omega)
        have HQ := Lib.hid hq
        have HGK := Lib.hid hg
        have hqu : ∀ wx : World, (binOp .quo 28 (.float .f32 (floatOfInt .f32 o)) (.float .f32 (floatOfInt .f32 M))).run Try.prog wx = .ok (.float .f32 q) wx := fun wx => by
          rw [run_fl_quo, flR_c HQ.out.e1, flD_c HQ.out.e1, World.drewN_zero]
        obtain ⟨r, hr⟩ : ∃ r, corB c o M = r := ⟨_, rfl⟩
        have hsu : ∀ wx : World, (binOp .sub 28 (.float .f32 (floatOfInt .f32 c)) (.float .f32 q)).run Try.prog wx = .ok (.float .f32 r) wx := fun wx => by
          rw [run_fl_sub, flR_c HQ.out.e2, flD_c HQ.out.e2, World.drewN_zero, hr]
        have HRV := Lib.hid (show L[k]?.getD 0 = r by rw [HGK.out, hr])
        obtain ⟨pb, po, rfl, hpc⟩ : ∃ b off, pa = some ⟨b, off, none⟩ ∧ wr.cell? ⟨b, off + k, none⟩ = some (.int .i64 c) := by
          rcases (O1.out.on HEE.out).reads.int.2 with h0 | ⟨b', off', rfl, hq⟩
          · omega
          · exact ⟨b', off', rfl, by rw [hq k hlt, hat]⟩
        obtain ⟨b0, b1, b2, b3⟩ := (BX1.out.on HEE.out).four
        have hrl : (k + 1) * m ≤ n := by rw [← HZ.out, OK.out.len, Nat.mul_comm m d]; exact Nat.mul_le_mul_right m hlt
        have HSUM := Lib.hid (show sumZ (fun i => ((zs.drop (k * m)).take m)[i]?.getD 0) m = s by
          rw [← hs]; exact sumZ_congrC m fun i hi => row_getC i hi)
        have HBD := Lib.hid (show ∀ i, i < m → -1000000000000 ≤ ((zs.drop (k * m)).take m)[i]?.getD 0 ∧ ((zs.drop (k * m)).take m)[i]?.getD 0 ≤ 1000000000000 from fun i hi => by
          rw [row_getC i hi]; exact manyB_at OK.out.many (by rw [Nat.add_mul, Nat.one_mul] at hrl; rw [HZ.out]; omega))
        have HRL := Lib.hid hrl
        clear hq hg h1 h2 hat hc hs ho hr hrl
        go_wp2_with fail
        refine (c_impl_rowOfC m k d S ab ao n cap _ (by omega) m64 (by omega) HRL.out hcap.1 hcap.2).mono ?_; rintro e w1 ⟨rfl, x1⟩
        have X2 := Lib.hid x1
        have hcell := (rowIs_on HRR.out X2.out).cell (i := k) hlt
        have hfro := (rowIs_on HRR.out X2.out).frozen k
        rw [show rowU L k k = .float .f32 0 by unfold rowU; rw [if_neg (by omega)]] at hcell
        obtain ⟨d0, d1, d2, d3⟩ := (BX1.out.on (HEE.out.trans X2.out)).four
        clear x1 b0 b1 b2 b3 hpc
        go_wp2_with fail
        refine (c_impl_sumOfC _ m m _ _ (by omega) HBD.out (row_readsC (H.out.on (X1.out.trans (HEE.out.trans X2.out))) HRL.out)).mono ?_; rintro e w2 ⟨rfl, rfl⟩
        rw [HSUM.out]
        go_wp2_with fail
        rw [HM.out, hqu]
        go_wp2
        go_roundw
        case rel =>
          refine ⟨k + 1, by omega, by go_num, ?_, (HEE.out.trans X2.out).stepS (by simp) _⟩
          have := rowU_step (rowIs_on HRR.out X2.out)
          rw [HRV.out] at this
          exact this
        case measure => simp [intOf]; omega
      · obtain rfl : k = d := by omega
        have HRW := Lib.hid (rowU_all HL.out HRR.out)
        go_wp2_with fail
        refine (c_medianOf_f wa.heap.size k k L _ _ hd1 (by omega) HL.out HFB.out (Nat.le_refl _) HRW.out).mono ?_; rintro e wz ⟨rfl, tz⟩
        have XZ : Ext w wz := X1.out.trans (Touch.ext HEE.out tz (Nat.le_refl _))
        clear tz
        go_wp2
        go_ret2
        exact ⟨rfl, XZ⟩
  · rw [corR_no (both_no hp)] at hv
    simp only [Prod.mk.injEq] at hv
    obtain ⟨rfl, rfl⟩ := hv
    have HV := Lib.hid (placesR_no (both_no hp))
    clear hp h
    go_enter Try.func48, Try.ntmps48
    go_wp2_with fail
    refine (c_impl_countsAt_no W D S _ _ cap zs key _ HV.out hm (H.out.on (by (repeat (first | assumption | exact Ext.refl _ | (with_reducible refine Ext.stepS ?_ (by first | exact Nat.le_refl _ | (simp; done) | (simp; omega)) _) | (with_reducible refine Ext.stepN ?_ _) | (with_reducible refine Ext.stepD ?_) | (with_reducible refine Ext.stepA ?_ _)))))).mono ?_; rintro e wa ⟨⟨pa, pc, rfl⟩, x'⟩
    have X1 : Ext w wa := (Ext.alloc _ _).trans x'
    clear x'
    go_wp2
    go_ret2
    exact ⟨rfl, X1⟩
end Go.Proofs.Ytfbapbgiegploaa
