/- BandPairs: the program's function. -/
import Derived.Test.YtibldgcfplpdkaaBpe
import Derived.Deep.DeepCutAuto
namespace Go.Proofs.Ytibldgcfplpdkaa
open Go.ChangeShapes Go.WideShapes Go.ChangeAt Go.RowKit
set_option linter.unusedVariables false
theorem RetSB.onb {t : TypeId} {n : Nat} {vs : List Value} {b : Bool} {w u : World} {e : Ending} {w' : World} (x : Ext w u) (h : RetSB t n vs b u e w') : RetSB t n vs b w e w' := by
  obtain ⟨a, c, he, o, x2⟩ := h
  exact ⟨a, c, he, o.wide x.size (Nat.le_refl _), x.trans x2⟩
theorem BandRow.on {zss : List (List Bool)} {W q : Nat} {hs : Nat → Hd} {w w' : World} {i : Nat} (h : BandRow zss W q hs w i) (x : Ext w w') : BandRow zss W q hs w' i := ⟨h.n, h.a, h.r.on x, h.c⟩
theorem band_row {zss : List (List Bool)} {W : Nat} {hs : Nat → Hd} {w : World} {a : Option Addr} {n : Nat} (hp : ptsb zss = true) (hd : divB (W : Int) (rowS zss 0).length = true) (h : ReadsS bools w a n hs zss) (hc : ∀ i, i < n → (rowS zss i).length ≤ (hs i).c) (i : Nat) (hi : i < n) :
    BandRow zss W ((rowS zss 0).length / W) hs w i := by
  obtain ⟨h1, h2, h3⟩ := ptsb_is hp
  obtain ⟨d1, d2⟩ := divB_is hd
  rw [Int.toNat_natCast] at d2
  have hl := h.len
  obtain ⟨e1, e2⟩ := h3 i (by omega)
  have hb := bitsB_is e1
  have hq : (rowS zss 0).length / W * W = (rowS zss 0).length := Nat.div_mul_cancel (Nat.dvd_of_mod_eq_zero d2)
  have hr := h.r i hi
  refine ⟨by rw [hq]; exact e2, ?_, by rw [hq, ← e2]; exact hr, by rw [hq, ← e2]; exact hc i hi⟩
  rcases hr.2 with h0 | ⟨b, off, ha, _⟩
  · omega
  · exact ⟨b, off, ha⟩
set_option maxRecDepth 100000 in
set_option maxHeartbeats 4000000 in
theorem c_impl_BandPairs (a : Option Addr) (n cap : Nat) (hs : Nat → Hd) (zss : List (List Bool)) (wide : Int) (w : World) {rz : List Int} {rb : Bool} (hv : bandR zss wide = (rz, rb)) (hl : n + totS zss n ≤ 1048576) (h : ReadsS bools w a n hs zss) (hc : ∀ i, i < n → (rowS zss i).length ≤ (hs i).c) :
    Calls Try.prog 31 #[.slice a n cap, .int .i64 wide] w (RetSB 2 rz.length (ints rz) rb w) := by
  have hz := h.len
  subst hz
  have X0 := Lib.hid (show Ext w ((w.alloc (.cells #[.slice a zss.length cap] 43)).alloc (.cells #[.int .i64 wide] 2)) by (repeat (first | assumption | exact Ext.refl _ | (with_reducible refine Ext.stepS ?_ (by first | exact Nat.le_refl _ | (simp; done) | (simp; omega)) _) | (with_reducible refine Ext.stepN ?_ _) | (with_reducible refine Ext.stepD ?_) | (with_reducible refine Ext.stepA ?_ _))))
  have BL := Lib.hid ((Box.alloc w #[.slice a zss.length cap] 43).past (.cells #[.int .i64 wide] 2))
  have BW := Lib.hid (Box.alloc_at (w.alloc (.cells #[.slice a zss.length cap] 43)) #[.int .i64 wide] 2 (b := w.heap.size + 1) (by simp))
  have H := Lib.hid h
  have HL := Lib.hid hl
  have HCC := Lib.hid hc
  cases hp : ptsb zss
  · rw [bandR_no (bandOk_pts hp)] at hv
    cases hv
    have HP := Lib.hid hp
    clear hp h hl hc
    go_enter Try.func31, Try.ntmps31
    go_upto_region 1 with fail
    generalize (w.alloc (.cells #[.slice a zss.length cap] 43)).alloc (.cells #[.int .i64 wide] 2) = w1 at *
    have f0 := BL.out.cell 0
    have f1 := BW.out.cell 0
    first | (go_region_with (first | (go_at_call 114; refine (c_arePointsb a _ cap hs zss _ HP.out HL.out (H.out.on (X0.out.trans (by (repeat (first | assumption | exact Ext.refl _ | (with_reducible refine Ext.stepS ?_ (by first | exact Nat.le_refl _ | (simp; done) | (simp; omega)) _) | (with_reducible refine Ext.stepN ?_ _) | (with_reducible refine Ext.stepD ?_) | (with_reducible refine Ext.stepA ?_ _))))))).mono ?_; rintro e u1 ⟨rfl, x1⟩; have EA : Ext w1 u1 := Ext.trans (by (repeat (first | assumption | exact Ext.refl _ | (with_reducible refine Ext.stepS ?_ (by first | exact Nat.le_refl _ | (simp; done) | (simp; omega)) _) | (with_reducible refine Ext.stepN ?_ _) | (with_reducible refine Ext.stepD ?_) | (with_reducible refine Ext.stepA ?_ _)))) x1; have k0 := (BL.out.on EA).cell 0; have k1 := (BW.out.on EA).cell 0))) | fail
    all_goals
      go_wp2
      go_ret2
      exact (RetSB.nil _ _).onb (X0.out.trans (by (repeat (first | assumption | exact Ext.refl _ | (with_reducible refine Ext.stepS ?_ (by first | exact Nat.le_refl _ | (simp; done) | (simp; omega)) _) | (with_reducible refine Ext.stepN ?_ _) | (with_reducible refine Ext.stepD ?_) | (with_reducible refine Ext.stepA ?_ _)))))
  obtain ⟨h1, h2, h3⟩ := ptsb_is hp
  obtain ⟨b, off, rfl⟩ : ∃ b off, a = some ⟨b, off, none⟩ := by
    rcases h.o.2 with h0 | ⟨b, off, h0, _⟩
    · omega
    · exact ⟨b, off, h0⟩
  have HC := Lib.hid (show ∀ i, i < zss.length → w.cell? ⟨b, off + i, none⟩ = some (.slice (hs i).a (rowS zss i).length (hs i).c) from fun i hi => by
    rcases h.cells with h0 | ⟨b', off', he, hc⟩
    · omega
    · cases he; exact hc i hi)
  have HL0 := Lib.hid (show (rowS zss 0).length ≤ 1048576 by have := totS_row zss (show 0 < zss.length by omega); omega)
  cases hd : divB wide (rowS zss 0).length
  · rw [bandR_no (bandOk_div hd)] at hv
    cases hv
    obtain ⟨L, hL⟩ : ∃ L, (rowS zss 0).length = L := ⟨_, rfl⟩
    rw [hL] at hd HL0
    have HD := Lib.hid hd
    have HP := Lib.hid hp
    have C0 := Lib.hid (show w.cell? ⟨b, off, none⟩ = some (.slice (hs 0).a L (hs 0).c) by have := HC.out 0 (by omega); rwa [hL] at this)
    have hpos : 0 < zss.length := by omega
    have hposI : (0 : Int) < (zss.length : Int) := by omega
    clear hp hd h hl hc h1 h2 h3 hL
    go_enter Try.func31, Try.ntmps31
    go_upto_region 1 with fail
    generalize (w.alloc (.cells #[.slice (some ⟨b, off, none⟩) zss.length cap] 43)).alloc (.cells #[.int .i64 wide] 2) = w1 at *
    have f0 := BL.out.cell 0
    have f1 := BW.out.cell 0
    first | (go_region_with (first | (go_at_call 114; refine (c_arePointsb _ _ cap hs zss _ HP.out HL.out (H.out.on (X0.out.trans (by (repeat (first | assumption | exact Ext.refl _ | (with_reducible refine Ext.stepS ?_ (by first | exact Nat.le_refl _ | (simp; done) | (simp; omega)) _) | (with_reducible refine Ext.stepN ?_ _) | (with_reducible refine Ext.stepD ?_) | (with_reducible refine Ext.stepA ?_ _))))))).mono ?_; rintro e u1 ⟨rfl, x1⟩; have EA : Ext w1 u1 := Ext.trans (by (repeat (first | assumption | exact Ext.refl _ | (with_reducible refine Ext.stepS ?_ (by first | exact Nat.le_refl _ | (simp; done) | (simp; omega)) _) | (with_reducible refine Ext.stepN ?_ _) | (with_reducible refine Ext.stepD ?_) | (with_reducible refine Ext.stepA ?_ _)))) x1; have k0 := (BL.out.on EA).cell 0; have k1 := (BW.out.on EA).cell 0; have k2 := (X0.out.trans EA).some C0.out) | (go_at_call 116; refine (c_divides wide L _ HD.out HL0.out).mono ?_; rintro e u2 ⟨rfl, rfl⟩))) | fail
    all_goals
      go_wp2
      go_ret2
      exact (RetSB.nil _ _).onb (X0.out.trans (by (repeat (first | assumption | exact Ext.refl _ | (with_reducible refine Ext.stepS ?_ (by first | exact Nat.le_refl _ | (simp; done) | (simp; omega)) _) | (with_reducible refine Ext.stepN ?_ _) | (with_reducible refine Ext.stepD ?_) | (with_reducible refine Ext.stepA ?_ _)))))
  · obtain ⟨hd1, hd2⟩ := divB_is hd
    obtain ⟨W, hW⟩ : ∃ W : Nat, wide = (W : Int) := ⟨wide.toNat, by omega⟩
    subst hW
    have hW1 : 1 ≤ W := by omega
    rw [bandR_pairs (bandOk_yes hp hd)] at hv
    have HV := Lib.hid hv
    rw [Int.toNat_natCast] at hd2
    have hl32 : (rowS zss 0).length ≤ 32 := (bitsB_is (h3 0 (by omega)).1).2
    have hl1 : 1 ≤ (rowS zss 0).length := (bitsB_is (h3 0 (by omega)).1).1
    have hW64 : W ≤ 64 := by
      have h5 : (rowS zss 0).length / W * W = (rowS zss 0).length := Nat.div_mul_cancel (Nat.dvd_of_mod_eq_zero hd2)
      have : 0 < (rowS zss 0).length / W := Nat.pos_of_ne_zero fun e => by rw [e] at h5; omega
      have := Nat.mul_le_mul_right W this
      omega
    have HQ := Lib.hid (show (rowS zss 0).length / W * W ≤ 1048576 by rw [Nat.div_mul_cancel (Nat.dvd_of_mod_eq_zero hd2)]; exact HL0.out)
    have HROW := Lib.hid (band_row (W := W) hp hd h hc)
    have HN32 := Lib.hid h2
    obtain ⟨L, hL⟩ : ∃ L, (rowS zss 0).length = L := ⟨_, rfl⟩
    rw [hL] at hd HL0
    have HLL := Lib.hid hL
    have HD := Lib.hid hd
    have HP := Lib.hid hp
    have C0 := Lib.hid (show w.cell? ⟨b, off, none⟩ = some (.slice (hs 0).a L (hs 0).c) by have := HC.out 0 (by omega); rwa [hL] at this)
    have hpos : 0 < zss.length := by omega
    have hposI : (0 : Int) < (zss.length : Int) := by omega
    clear hp hd h hl hc h1 h2 h3 hL hd1 hd2 hv hl32 hl1
    go_enter Try.func31, Try.ntmps31
    go_upto_region 1 with fail
    generalize (w.alloc (.cells #[.slice (some ⟨b, off, none⟩) zss.length cap] 43)).alloc (.cells #[.int .i64 (W : Int)] 2) = w1 at *
    have f0 := BL.out.cell 0
    have f1 := BW.out.cell 0
    first | (go_region_with (first | (go_at_call 114; refine (c_arePointsb _ _ cap hs zss _ HP.out HL.out (H.out.on (X0.out.trans (by (repeat (first | assumption | exact Ext.refl _ | (with_reducible refine Ext.stepS ?_ (by first | exact Nat.le_refl _ | (simp; done) | (simp; omega)) _) | (with_reducible refine Ext.stepN ?_ _) | (with_reducible refine Ext.stepD ?_) | (with_reducible refine Ext.stepA ?_ _))))))).mono ?_; rintro e u1 ⟨rfl, x1⟩; have EA : Ext w1 u1 := Ext.trans (by (repeat (first | assumption | exact Ext.refl _ | (with_reducible refine Ext.stepS ?_ (by first | exact Nat.le_refl _ | (simp; done) | (simp; omega)) _) | (with_reducible refine Ext.stepN ?_ _) | (with_reducible refine Ext.stepD ?_) | (with_reducible refine Ext.stepA ?_ _)))) x1; have k0 := (BL.out.on EA).cell 0; have k1 := (BW.out.on EA).cell 0; have k2 := (X0.out.trans EA).some C0.out) | (go_at_call 116; refine (c_divides (W : Int) L _ HD.out HL0.out).mono ?_; rintro e u2 ⟨rfl, rfl⟩))) | fail
    all_goals
      go_wp2_with (go_at_call 117; refine (c_pairsOf_b w.heap.size (w.heap.size + 1) _ _ _ _ HV.out HN32.out (fun W2 i k X hik hk => c_bp1 _ _ b off _ cap hs zss W ((rowS zss 0).length / W) W2 i k (by first | rfl | (unfold bpP; rw [Int.toNat_natCast])) hW1 hW64 HQ.out (by omega) hk (by have := HN32.out; omega) ((BL.out.on (Ext.trans (by (repeat (first | assumption | exact Ext.refl _ | (with_reducible refine Ext.stepS ?_ (by first | exact Nat.le_refl _ | (simp; done) | (simp; omega)) _) | (with_reducible refine Ext.stepN ?_ _) | (with_reducible refine Ext.stepD ?_) | (with_reducible refine Ext.stepA ?_ _)))) X)).cell 0) ((BW.out.on (Ext.trans (by (repeat (first | assumption | exact Ext.refl _ | (with_reducible refine Ext.stepS ?_ (by first | exact Nat.le_refl _ | (simp; done) | (simp; omega)) _) | (with_reducible refine Ext.stepN ?_ _) | (with_reducible refine Ext.stepD ?_) | (with_reducible refine Ext.stepA ?_ _)))) X)).cell 0) ((X0.out.trans (Ext.trans (by (repeat (first | assumption | exact Ext.refl _ | (with_reducible refine Ext.stepS ?_ (by first | exact Nat.le_refl _ | (simp; done) | (simp; omega)) _) | (with_reducible refine Ext.stepN ?_ _) | (with_reducible refine Ext.stepD ?_) | (with_reducible refine Ext.stepA ?_ _)))) X)).some (HC.out i (by omega))) ((X0.out.trans (Ext.trans (by (repeat (first | assumption | exact Ext.refl _ | (with_reducible refine Ext.stepS ?_ (by first | exact Nat.le_refl _ | (simp; done) | (simp; omega)) _) | (with_reducible refine Ext.stepN ?_ _) | (with_reducible refine Ext.stepD ?_) | (with_reducible refine Ext.stepA ?_ _)))) X)).some (HC.out k hk)) ((HROW.out i (by omega)).on (X0.out.trans (Ext.trans (by (repeat (first | assumption | exact Ext.refl _ | (with_reducible refine Ext.stepS ?_ (by first | exact Nat.le_refl _ | (simp; done) | (simp; omega)) _) | (with_reducible refine Ext.stepN ?_ _) | (with_reducible refine Ext.stepD ?_) | (with_reducible refine Ext.stepA ?_ _)))) X))) ((HROW.out k hk).on (X0.out.trans (Ext.trans (by (repeat (first | assumption | exact Ext.refl _ | (with_reducible refine Ext.stepS ?_ (by first | exact Nat.le_refl _ | (simp; done) | (simp; omega)) _) | (with_reducible refine Ext.stepN ?_ _) | (with_reducible refine Ext.stepD ?_) | (with_reducible refine Ext.stepA ?_ _)))) X))))).mono ?_; rintro e w3 ⟨a3, c3, rfl, o3, x3⟩; have O3 := Lib.hid o3; have X3 := Lib.hid x3; clear o3 x3)
      go_ret2
      exact RetSB.onb (X0.out.trans (by (repeat (first | assumption | exact Ext.refl _ | (with_reducible refine Ext.stepS ?_ (by first | exact Nat.le_refl _ | (simp; done) | (simp; omega)) _) | (with_reducible refine Ext.stepN ?_ _) | (with_reducible refine Ext.stepD ?_) | (with_reducible refine Ext.stepA ?_ _))))) ⟨_, _, rfl, O3.out, X3.out⟩
end Go.Proofs.Ytibldgcfplpdkaa
