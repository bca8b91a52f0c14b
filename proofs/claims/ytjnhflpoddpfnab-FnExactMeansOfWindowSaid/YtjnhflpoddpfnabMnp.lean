/- Means of last ones: plain; the sum and the mean of a list by the program. -/
import Derived.Test.YtjnhflpoddpfnabSms
import Derived.Test.YtjnhflpoddpfnabKin
namespace Go.Proofs.Ytjnhflpoddpfnab
open Go.ChangeShapes Go.WideShapes Go.ChangeAt Go.RowKit Go.Proofs.Ytjnhflpoddpfnab.Flo
set_option linter.unusedVariables false
attribute [local go_sem] run_fl_add run_fl_sub run_fl_mul run_fl_quo run_conv run_store_float run_store_complex
def lastG (zs : List Nat) (L i : Nat) : List Nat := (zs.take (i + 1)).drop (i + 1 - L)
theorem lastG_length (zs : List Nat) (L i : Nat) (hi : i < zs.length) : (lastG zs L i).length = i + 1 - (i + 1 - L) := by
  unfold lastG; rw [List.length_drop, List.length_take]; omega
theorem lastG_get (zs : List Nat) (L i k : Nat) (hk : k < i + 1 - (i + 1 - L)) : (lastG zs L i)[k]?.getD 0 = zs[i + 1 - L + k]?.getD 0 := by
  unfold lastG; rw [List.getElem?_drop, List.getElem?_take_of_lt (by omega)]
def sumV (zs : List Nat) : Option Nat := zs.foldl (fun s x => fop .add .f32 s (fv .f32 x)) (some 0)
theorem sumV_step (zs : List Nat) (k : Nat) (h : k < zs.length) : sumV (zs.take (k + 1)) = fop .add .f32 (sumV (zs.take k)) (fv .f32 (zs[k]?.getD 0)) := by
  unfold sumV
  rw [List.take_succ_eq_append_getElem h, List.foldl_append]
  simp [h]
def meanV (zs : List Nat) : Option Nat := fop .quo .f32 (sumV zs) (fv .f32 (floatOfInt .f32 (zs.length : Int)))
def mnV (zs : List Nat) (L i : Nat) : Option Nat := meanV (lastG zs L i)
def mnB (zs : List Nat) (long : Int) : Bool := stB zs && inB 1 long 128
def mnA (zs : List Nat) (L : Nat) : Bool := allTo zs.length fun i => finV (mnV zs L i)
def mnL (zs : List Nat) (L : Nat) : List Nat := (List.range zs.length).map fun i => (mnV zs L i).getD 0
def mnR (zs : List Nat) (long : Int) : List Nat × Bool := if mnB zs long && mnA zs long.toNat then (mnL zs long.toNat, true) else ([], false)
theorem mnR_yes {zs : List Nat} {long : Int} (h : mnB zs long = true) (h2 : mnA zs long.toNat = true) : mnR zs long = (mnL zs long.toNat, true) := if_pos (by rw [h, h2]; rfl)
theorem mnR_no {zs : List Nat} {long : Int} (h : (mnB zs long && mnA zs long.toNat) = false) : mnR zs long = ([], false) := if_neg (by rw [h]; decide)
theorem mnL_length (zs : List Nat) (L : Nat) : (mnL zs L).length = zs.length := by simp [mnL]
theorem mnL_get (zs : List Nat) (L i : Nat) (h : i < zs.length) : (mnL zs L)[i]? = some ((mnV zs L i).getD 0) := by simp [mnL, h]
theorem mnL_take (zs : List Nat) (L k : Nat) (h : k < zs.length) : flos ((mnL zs L).take (k + 1)) = flos ((mnL zs L).take k) ++ [.float .f32 ((mnV zs L k).getD 0)] := by
  have hl := mnL_length zs L
  have hg := mnL_get zs L k h
  rw [List.getElem?_eq_getElem (by omega)] at hg
  unfold flos
  rw [List.take_succ_eq_append_getElem (by omega), List.map_append, Option.some.inj hg]
  rfl
theorem mnB_ok {zs : List Nat} {long : Int} (h : mnB zs long = true) : StOk zs ∧ 1 ≤ long ∧ long ≤ 128 := by
  unfold mnB at h
  rw [Bool.and_eq_true] at h
  exact ⟨st_ok h.1, inB_is.1 h.2⟩
theorem mnR_le {zs : List Nat} {long : Int} {c : List Nat} {b : Bool} (h : mnR zs long = (c, b)) : c.length ≤ 1048576 := by
  cases hs : (mnB zs long && mnA zs long.toNat)
  · rw [mnR_no hs] at h; simp only [Prod.mk.injEq] at h; obtain ⟨rfl, rfl⟩ := h; exact Nat.zero_le _
  · rw [Bool.and_eq_true] at hs
    rw [mnR_yes hs.1 hs.2] at h; simp only [Prod.mk.injEq] at h; obtain ⟨rfl, rfl⟩ := h
    rw [mnL_length]
    have := (mnB_ok hs.1).1.hi
    omega
theorem mnA_no {zs : List Nat} {long : Int} {k : Nat} (hk : k < zs.length) (h : finV (mnV zs long.toNat k) = false) : mnR zs long = ([], false) := mnR_no (by rw [show mnA zs long.toNat = false from allTo_no hk h]; simp)
theorem mn_end {zs : List Nat} {long : Int} {n : Nat} {B : Nat → Nat} (hz : zs.length = n) (hs : mnB zs long = true) (h : ∀ j, j < n → fv .f32 (B j) = mnV zs long.toNat j) :
    (finB (bitsOfN B n) = true ∧ mnR zs long = (bitsOfN B n, true)) ∨ (finB (bitsOfN B n) = false ∧ mnR zs long = ([], false)) := by
  have hl := bitsOfN_length B n
  cases hf : finB (bitsOfN B n)
  · right
    refine ⟨rfl, ?_⟩
    have : ∃ j, j < n ∧ isFin .f32 (B j) = false := by
      apply Classical.byContradiction
      intro hn
      have : finB (bitsOfN B n) = true := finB_mk fun i hi => by
        rw [hl] at hi
        rw [bitsOfN_get B n i hi]
        cases q : isFin .f32 (B i)
        · exact absurd ⟨i, hi, q⟩ hn
        · exact q
      rw [this] at hf; cases hf
    obtain ⟨j, hj, hq⟩ := this
    exact mnA_no (k := j) (by rw [hz]; exact hj) (by rw [← h j hj, finV_fv]; exact hq)
  · left
    have hfin : ∀ j, j < n → isFin .f32 (B j) = true := fun j hj => by
      have := finB_at hf (i := j) (by rw [hl]; exact hj)
      rw [bitsOfN_get B n j hj] at this
      exact this
    have hall : mnA zs long.toNat = true := allTo_yes fun j hj => by rw [← h j (by omega), finV_fv]; exact hfin j (by omega)
    refine ⟨rfl, ?_⟩
    rw [mnR_yes hs hall]
    have : mnL zs long.toNat = bitsOfN B n := by
      unfold mnL bitsOfN
      rw [hz]
      refine List.map_congr_left fun j hj => ?_
      have hj' := List.mem_range.1 hj
      rw [← h j hj', fin_fvS (hfin j hj')]; rfl
    rw [this]
theorem reads_lastG {w : World} {b off n : Nat} {zs : List Nat} (hz : zs.length = n) (hc : ∀ i, i < n → w.cell? ⟨b, off + i, none⟩ = some (.float .f32 (zs[i]?.getD 0))) (L i : Nat) (hi : i < n) :
    Reads w (some ⟨b, off + (i + 1 - L), none⟩) (i + 1 - (i + 1 - L)) (flos (lastG zs L i)) := by
  refine ⟨by rw [flos_length, lastG_length _ _ _ (by omega)], .inr ⟨b, _, rfl, fun j hj => ?_⟩⟩
  rw [flos_get _ _ (by rw [lastG_length _ _ _ (by omega)]; exact hj), lastG_get zs L i j hj, Nat.add_assoc]
  exact hc _ (by omega)
set_option maxHeartbeats 1000000 in
theorem c_impl_SumNumbers_m (b off len cap : Nat) (zs : List Nat) (w : World) (hl : len ≤ 256) (hz : zs.length = len) (hc : ∀ i, i < len → w.cell? ⟨b, off + i, none⟩ = some (.float .f32 (zs[i]?.getD 0))) :
    Calls Try.prog 95 #[.slice (some ⟨b, off, none⟩) len cap] w fun e w' => ∃ r q, e = .returned (.tuple #[.float .f32 r, .bool true]) ∧ fv .f32 r = sumV zs ∧ r < 4294967296 ∧ w' = w.drewN q := by
  have hl' : (len : Int) ≤ 256 := by omega
  have HC := Lib.hid hc
  have HZ := Lib.hid hz
  clear hc hz
  go_enter Try.func95, Try.ntmps95
  go_wp2
  go_loopw [4, 12] (fun s i wr => ∃ (k n r : Nat), k ≤ len ∧ i = .int .i64 k ∧ wr = w.drewN n ∧ s = .float .f32 r ∧ fv .f32 r = sumV (zs.take k) ∧ r < 2 ^ FloatKind.f32.format.width) (fun _ i _ => len - (intOf i).toNat)
  case atStart => exact ⟨0, 0, 0, Nat.zero_le _, rfl, rfl, rfl, fv_some (by rw [dec_zero]; rfl), Nat.two_pow_pos _⟩
  case round =>
    obtain ⟨k, n, r, hk, rfl, rfl, rfl, hv, hr⟩ := hrel
    have HV := Lib.hid hv
    have HR := Lib.hid hr
    clear hv hr
    by_cases hlt : k < len
    · have hcell := HC.out k hlt
      have HS := Lib.hid (sumV_step zs k (by rw [HZ.out]; exact hlt))
      go_wp2
      go_roundw
      case rel => exact ⟨k + 1, _, _, by omega, by go_num, rfl, rfl, by rw [HS.out, fv_flR, HV.out], flR_lt _ _ _ _ _⟩
      case measure => simp [intOf]; omega
    · obtain rfl : k = len := by omega
      go_wp2
      go_ret2
      exact ⟨r, n, rfl, by rw [HV.out, List.take_of_length_le (Nat.le_of_eq HZ.out)], HR.out, rfl⟩
set_option maxHeartbeats 1000000 in
theorem c_impl_meanOf (b off d cap : Nat) (zs : List Nat) (w : World) {v : Option Nat} (hv : meanV zs = v) (h1 : 1 ≤ d) (h2 : d ≤ 256) (h : Reads w (some ⟨b, off, none⟩) d (flos zs)) :
    Calls Try.prog 60 #[.slice (some ⟨b, off, none⟩) d cap] w fun e w' => ∃ f, e = .returned (.float .f32 f) ∧ fv .f32 f = v ∧ f < 4294967296 ∧ Ext w w' := by
  obtain ⟨hz, hr⟩ := h.flo
  have HC := Lib.hid (show ∀ i, i < d → w.cell? ⟨b, off + i, none⟩ = some (.float .f32 (zs[i]?.getD 0)) by
    rcases hr with h0 | ⟨b', o', he, hc⟩
    · omega
    · cases he; exact hc)
  have HZ := Lib.hid hz
  have HV := Lib.hid hv
  have hdI : (d : Int) ≤ 256 := by omega
  clear hv hz hr h
  go_enter Try.func60, Try.ntmps60
  go_wp2_with fail
  refine (c_impl_SumNumbers_m b off d cap zs _ h2 HZ.out HC.out).mono ?_; rintro e w1 ⟨r, q, rfl, hr, hlt, rfl⟩
  have HR := Lib.hid hr
  clear hr hlt
  go_wp2
  go_ret
  exact ⟨_, rfl, by rw [← HV.out, fv_flR, HR.out]; unfold meanV; rw [HZ.out], flR_lt _ _ _ _ _, by (repeat (first | assumption | exact Ext.refl _ | (with_reducible refine Ext.stepS ?_ (by first | exact Nat.le_refl _ | (simp; done) | (simp; omega)) _) | (with_reducible refine Ext.stepN ?_ _) | (with_reducible refine Ext.stepD ?_) | (with_reducible refine Ext.stepA ?_ _)))⟩
end Go.Proofs.Ytjnhflpoddpfnab
