/- PutTally, OutTally: both sides. -/
import Derived.Test.YtfolflkbpdbkcabTal
import Derived.Deep.DeepCutAuto
import Derived.Deep.LoopGhost
import Derived.Deep.RegionHeld3
import Derived.Deep.AppendLies
import Derived.Lib.SmallJoins
namespace Go.Proofs.Ytfolflkbpdbkcab
open Go.ChangeShapes Go.WideShapes Go.ChangeAt Go.RowKit
set_option linter.unusedVariables false
/-- a tally if it is valid -/
def giveT (R S : Int) (zs : List Int) : TV × Bool := if tallyB R S zs then (⟨R, S, zs⟩, true) else (TV.no, false)
theorem giveT_no {R S : Int} {zs : List Int} (h : tallyB R S zs = false) : giveT R S zs = (TV.no, false) := by unfold giveT; rw [h]; rfl
theorem giveT_yes {R S : Int} {zs : List Int} (h : tallyB R S zs = true) : giveT R S zs = (⟨R, S, zs⟩, true) := by unfold giveT; rw [h, if_pos rfl]
def changeT (R S : Int) (zs : List Int) (key y : Int) : TV × Bool := if tallyB R S zs && keyB key then giveT R S (addAt (gplace S key zs.length) y zs R.toNat) else (TV.no, false)
theorem changeT_1 {R S key y : Int} {zs : List Int} (h : tallyB R S zs = false) : changeT R S zs key y = (TV.no, false) := by unfold changeT; rw [h]; rfl
theorem changeT_2 {R S key y : Int} {zs : List Int} (h : keyB key = false) : changeT R S zs key y = (TV.no, false) := by unfold changeT; rw [h, Bool.and_false]; rfl
theorem changeT_y {r : Nat} {S key y : Int} {zs : List Int} (h : tallyB r S zs = true) (hk : keyB key = true) : changeT r S zs key y = giveT r S (addAt (gplace S key zs.length) y zs r) := by unfold changeT; rw [h, hk]; simp
theorem giveT_le {R S : Int} {zs rz : List Int} {rR rS : Int} {rb : Bool} (h : giveT R S zs = (⟨rR, rS, rz⟩, rb)) : rz.length ≤ 1048576 := by
  unfold giveT at h
  split at h
  · rename_i hc
    obtain ⟨r, _, ok, _⟩ := tally_ok hc
    have := ok.n512
    simp only [Prod.mk.injEq, TV.mk.injEq] at h
    rw [← h.1.2.2]; omega
  · simp only [Prod.mk.injEq, TV.no, TV.mk.injEq] at h
    rw [← h.1.2.2]; exact Nat.zero_le _
theorem changeT_le {R S key y : Int} {zs rz : List Int} {rR rS : Int} {rb : Bool} (h : changeT R S zs key y = (⟨rR, rS, rz⟩, rb)) : rz.length ≤ 1048576 := by
  unfold changeT at h
  split at h
  · exact giveT_le h
  · simp only [Prod.mk.injEq, TV.no, TV.mk.injEq] at h
    rw [← h.1.2.2]; exact Nat.zero_le _
set_option maxHeartbeats 4000000 in
theorem c_impl_changeTally (R S : Int) (a : Option Addr) (n cap : Nat) (zs : List Int) (key y : Int) (w : World) {V : TV} {v : Bool} (hv : changeT R S zs key y = (V, v)) (hy : -1 ≤ y ∧ y ≤ 1) (hm : n ≤ maxLen) (h : Reads w a n (ints zs)) :
    Calls Try.prog 63 #[.agg #[.int .i64 R, .int .i64 S, .slice a n cap], .int .i64 key, .int .i64 y] w (RetKTB 2 V v w) := by
  have H := Lib.hid h
  have BX := Lib.hid ((Box.alloc w #[.int .i64 R, .int .i64 S, .slice a n cap] 27).past (.cells #[.int .i64 0, .int .i64 0, .slice none 0 0] 27))
  have BZ := Lib.hid (Box.alloc_at (w.alloc (.cells #[.int .i64 R, .int .i64 S, .slice a n cap] 27)) #[.int .i64 0, .int .i64 0, .slice none 0 0] 27 (b := w.heap.size + 1) (by simp))
  have hn := h.int.1
  clear h
  cases hc : tallyB R S zs
  · rw [changeT_1 hc] at hv
    simp only [Prod.mk.injEq] at hv
    obtain ⟨rfl, rfl⟩ := hv
    have HC := Lib.hid hc
    clear hc hn hy
    go_enter Try.func63, Try.ntmps63
    go_wp2_with fail
    refine (c_impl_ValidTally R S a n cap zs _ HC.out hm (H.out.on (by (repeat (first | assumption | exact Ext.refl _ | (with_reducible refine Ext.stepS ?_ (by first | exact Nat.le_refl _ | (simp; done) | (simp; omega)) _) | (with_reducible refine Ext.stepN ?_ _) | (with_reducible refine Ext.stepD ?_) | (with_reducible refine Ext.stepA ?_ _)))))).mono ?_; rintro e u1 ⟨rfl, x1⟩
    have X : Ext w u1 := Ext.trans (by (repeat (first | assumption | exact Ext.refl _ | (with_reducible refine Ext.stepS ?_ (by first | exact Nat.le_refl _ | (simp; done) | (simp; omega)) _) | (with_reducible refine Ext.stepN ?_ _) | (with_reducible refine Ext.stepD ?_) | (with_reducible refine Ext.stepA ?_ _)))) x1
    obtain ⟨z0, z1, z2⟩ := (BZ.out.on x1).three
    obtain ⟨f0, f1, f2, f3⟩ := (BZ.out.on x1).free
    clear x1
    go_wp2
    refine bodyPost_ret (v := .tuple #[.agg #[.int .i64 0, .int .i64 0, .slice none 0 0], .bool false]) (by simp [results, Try.results63, go_sem, z0, z1, z2]) rfl ⟨none, 0, rfl, Own.nil _ _ _ _, ?_⟩
    (repeat (first | assumption | exact Ext.refl _ | (with_reducible refine Ext.stepS ?_ (by first | exact Nat.le_refl _ | (simp; done) | (simp; omega)) _) | (with_reducible refine Ext.stepN ?_ _) | (with_reducible refine Ext.stepD ?_) | (with_reducible refine Ext.stepA ?_ _)))
  cases hk : keyB key
  · rw [changeT_2 hk] at hv
    simp only [Prod.mk.injEq] at hv
    obtain ⟨rfl, rfl⟩ := hv
    have HC := Lib.hid hc
    have HK := Lib.hid hk
    clear hc hn hy hk
    go_enter Try.func63, Try.ntmps63
    go_wp2_with fail
    refine (c_impl_ValidTally R S a n cap zs _ HC.out hm (H.out.on (by (repeat (first | assumption | exact Ext.refl _ | (with_reducible refine Ext.stepS ?_ (by first | exact Nat.le_refl _ | (simp; done) | (simp; omega)) _) | (with_reducible refine Ext.stepN ?_ _) | (with_reducible refine Ext.stepD ?_) | (with_reducible refine Ext.stepA ?_ _)))))).mono ?_; rintro e u1 ⟨rfl, x1⟩
    have X : Ext w u1 := Ext.trans (by (repeat (first | assumption | exact Ext.refl _ | (with_reducible refine Ext.stepS ?_ (by first | exact Nat.le_refl _ | (simp; done) | (simp; omega)) _) | (with_reducible refine Ext.stepN ?_ _) | (with_reducible refine Ext.stepD ?_) | (with_reducible refine Ext.stepA ?_ _)))) x1
    obtain ⟨z0, z1, z2⟩ := (BZ.out.on x1).three
    obtain ⟨f0, f1, f2, f3⟩ := (BZ.out.on x1).free
    clear x1
    go_wp2_with (go_at_call 69; refine (c_impl_IsKey_q key _ HK.out).mono ?_; rintro e w' ⟨rfl, rfl⟩)
    refine bodyPost_ret (v := .tuple #[.agg #[.int .i64 0, .int .i64 0, .slice none 0 0], .bool false]) (by simp [results, Try.results63, go_sem, z0, z1, z2]) rfl ⟨none, 0, rfl, Own.nil _ _ _ _, ?_⟩
    (repeat (first | assumption | exact Ext.refl _ | (with_reducible refine Ext.stepS ?_ (by first | exact Nat.le_refl _ | (simp; done) | (simp; omega)) _) | (with_reducible refine Ext.stepN ?_ _) | (with_reducible refine Ext.stepD ?_) | (with_reducible refine Ext.stepA ?_ _)))
  obtain ⟨r, rfl, ok, up⟩ := tally_ok hc
  rw [changeT_y hc hk] at hv
  have HV := Lib.hid hv
  have OK := Lib.hid ok
  have UP := Lib.hid up
  have HC := Lib.hid hc
  have HK := Lib.hid hk
  have HY := Lib.hid hy
  have hr8 := ok.r8
  have hn1 := ok.n1
  have hn5 := ok.n512
  subst hn
  clear hc hk hv ok up hy
  go_enter Try.func63, Try.ntmps63
  go_wp2_with fail
  refine (c_impl_ValidTally r S a zs.length cap zs _ HC.out hm (H.out.on (by (repeat (first | assumption | exact Ext.refl _ | (with_reducible refine Ext.stepS ?_ (by first | exact Nat.le_refl _ | (simp; done) | (simp; omega)) _) | (with_reducible refine Ext.stepN ?_ _) | (with_reducible refine Ext.stepD ?_) | (with_reducible refine Ext.stepA ?_ _)))))).mono ?_; rintro e wa ⟨rfl, x1⟩
  have X1 := Lib.hid (show Ext w wa from Ext.trans (by (repeat (first | assumption | exact Ext.refl _ | (with_reducible refine Ext.stepS ?_ (by first | exact Nat.le_refl _ | (simp; done) | (simp; omega)) _) | (with_reducible refine Ext.stepN ?_ _) | (with_reducible refine Ext.stepD ?_) | (with_reducible refine Ext.stepA ?_ _)))) x1)
  have BX1 := Lib.hid (BX.out.on x1)
  have HSZ := Lib.hid (show w.heap.size + 2 ≤ wa.heap.size from Nat.le_trans (by first | omega | (simp; done) | (simp; omega)) x1.size)
  have BZ1 := Lib.hid (BZ.out.on x1)
  obtain ⟨b0, b1, b2⟩ := BX1.out.three
  clear x1
  go_wp2_with (go_at_call 69; refine (c_impl_IsKey_q key _ HK.out).mono ?_; rintro e w' ⟨rfl, rfl⟩)
  have hne : w.heap.size ≠ wa.heap.size := by have := HSZ.out; omega
  have hne' : wa.heap.size ≠ w.heap.size := fun h => hne h.symm
  go_upto_region 3 with fail
  go_cut [8] (fun s8 wx => ∃ nb g c2 f2, s8 = .pointer (some ⟨nb, 0, none⟩) ∧ Box wx nb 27 #[.int .i64 r, .int .i64 S, .slice (some ⟨g, 0, none⟩) zs.length c2] ∧ wa.heap.size ≤ g ∧ nb ≠ g ∧ wa.heap.size ≤ nb ∧ zs.length ≤ c2 ∧ wx.rowIs g 2 c2 (rowT zs f2) ∧ Ext wa wx)
  case first =>
    go_region_held3 (fun w' => w'.cell? ⟨w.heap.size, 0, none⟩ = some (.int .i64 r) ∧ w'.cell? ⟨w.heap.size, 1, none⟩ = some (.int .i64 S) ∧ w'.cell? ⟨w.heap.size, 2, none⟩ = some (.slice a zs.length cap)) (first | exact KA | go_keep)
      (first | (go_at_call 77; refine (c_Clone_r a zs.length cap zs _ (by omega) (by omega) (H.out.on (X1.out.trans (by (repeat (first | assumption | exact Ext.refl _ | (with_reducible refine Ext.stepS ?_ (by first | exact Nat.le_refl _ | (simp; done) | (simp; omega)) _) | (with_reducible refine Ext.stepN ?_ _) | (with_reducible refine Ext.stepD ?_) | (with_reducible refine Ext.stepA ?_ _))))))).mono ?_; rintro e wb ⟨g, c2, f2, rfl, hg, hc2, r2, x2⟩; have EA : Ext wa wb := Ext.trans (by (repeat (first | assumption | exact Ext.refl _ | (with_reducible refine Ext.stepS ?_ (by first | exact Nat.le_refl _ | (simp; done) | (simp; omega)) _) | (with_reducible refine Ext.stepN ?_ _) | (with_reducible refine Ext.stepD ?_) | (with_reducible refine Ext.stepA ?_ _)))) x2; have BX2 := Lib.hid (BX1.out.on EA); have KA := BX2.out.three; have R2 := Lib.hid r2; have G2' := Lib.hid (show wa.heap.size ≤ g from Nat.le_trans (by first | exact Nat.le_refl _ | (simp; done) | (simp; omega)) hg); have X2 := Lib.hid x2; have EH := Lib.hid EA; try (have NB := Lib.hid (Box.on (w := wa.alloc (.cells #[.int .i64 0, .int .i64 0, .slice none 0 0] 27)) (Box.alloc _ _ _) (Ext.trans (by (repeat (first | assumption | exact Ext.refl _ | (with_reducible refine Ext.stepS ?_ (by first | exact Nat.le_refl _ | (simp; done) | (simp; omega)) _) | (with_reducible refine Ext.stepN ?_ _) | (with_reducible refine Ext.stepD ?_) | (with_reducible refine Ext.stepA ?_ _)))) x2)); obtain ⟨z0, z1, z2⟩ := NB.out.three; obtain ⟨y0, y1, y2, y3⟩ := NB.out.free; have GN := Lib.hid (show wa.heap.size < g by have := hg; simp at this; omega)); clear r2 x2 hg EA))
    · go_wp2_with fail
      go_meet
      exact ⟨wb.heap.size, g, c2, f2, rfl, Box.alloc _ _ _, G2'.out, by have := R2.out.lt; omega, EH.out.size, hc2, rowIs_on R2.out (Ext.alloc _ _), EH.out.stepA _⟩
    · go_wp2_with fail
      go_meet
      exact ⟨wa.heap.size, g, c2, f2, rfl, ((NB.out.put 0 _).put 1 _).put 2 _, by have := GN.out; omega, by have := GN.out; omega, Nat.le_refl _, hc2, ((R2.out.setOther (by have := GN.out; simp; omega) _).setOther (by have := GN.out; simp; omega) _).setOther (by have := GN.out; simp; omega) _, by have EH' := EH.out; (repeat (first | assumption | exact Ext.refl _ | (with_reducible refine Ext.stepS ?_ (by first | exact Nat.le_refl _ | (simp; done) | (simp; omega)) _) | (with_reducible refine Ext.stepN ?_ _) | (with_reducible refine Ext.stepD ?_) | (with_reducible refine Ext.stepA ?_ _)))⟩
  case rest =>
    obtain ⟨nb, g, c2, f2, rfl, hnb, hg, hng, hnw, hc2, hrow, hext⟩ := hcut
    have HNB := Lib.hid hnb
    have HRW := Lib.hid hrow
    have HEX := Lib.hid hext
    have HNG := Lib.hid hng
    have HG := Lib.hid hg
    have HNW := Lib.hid hnw
    clear hnb hrow hext b0 b1 b2 hng hg hnw hne hne'
    obtain ⟨b0, b1, b2⟩ := (BX1.out.on HEX.out).three
    go_wp2_with fail
    refine (c_impl_gridOfTally r S a zs.length cap _).mono ?_; rintro e wd ⟨rfl, xd⟩
    go_wp2_with fail
    refine (c_impl_placesIn r zs.length S key _ OK.out HK.out).mono ?_; rintro e we ⟨pa, pc, rfl, o', xe⟩
    have XE := Lib.hid (xd.trans xe)
    have xdsz := Lib.hid xd.size
    have O := Lib.hid o'
    clear b0 b1 b2 xd xe o'
    go_wp2_with fail
    have HRE := Lib.hid (rowIs_on HRW.out XE.out)
    have HNE := Lib.hid (HNB.out.on XE.out)
    have HEE := Lib.hid (HEX.out.trans XE.out)
    go_loopw [33] (fun i wr => ∃ k : Nat, k ≤ r ∧ i = .int .i64 k ∧ wr.rowIs g 2 c2 (rowT (addAt (gplace S key zs.length) y zs k) f2) ∧ Touch g (g + 1) we wr) (fun i _ => r - (intOf i).toNat)
    case atStart => exact ⟨0, Nat.zero_le _, rfl, HRE.out, Touch.refl _ _ _⟩
    case round =>
      obtain ⟨k, hk, rfl, hrow, ht⟩ := hrel
      have HRR := Lib.hid hrow
      have HT := Lib.hid ht
      have HGL := Lib.hid HRW.out.lt
      have HWE := Lib.hid (show wc.heap.size ≤ we.heap.size from XE.out.size)
      have HBB := Lib.hid (HNE.out.beside ht (by have := HNG.out; omega))
      clear hrow ht
      by_cases hlt : k < r
      · obtain ⟨p, hp⟩ : ∃ p, gplace S key zs.length k = p := ⟨_, rfl⟩
        have hpl : p < zs.length := by rw [← hp]; exact gplace_lt S key k (by omega)
        have hlen := addAt_length (gplace S key zs.length) y zs k
        have hbd := addAt_bd (p := gplace S key zs.length) HY.out (fun i hi => upB_at UP.out hi) k p hpl
        obtain ⟨x, hx⟩ : ∃ x, (addAt (gplace S key zs.length) y zs k)[p]?.getD 0 = x := ⟨_, rfl⟩
        rw [hx] at hbd
        obtain ⟨x0, x1⟩ := hbd
        have hyy := HY.out
        have hw : IntKind.i64.wrap (x + y) = x + y := by rw [IntKind.wrap_i64]; omega
        obtain ⟨pb, po, rfl, hpc⟩ : ∃ b off, pa = some ⟨b, off, none⟩ ∧ wr.cell? ⟨b, off + k, none⟩ = some (.int .i64 (p : Int)) := by
          obtain ⟨_, hq⟩ := (O.out.beside HT.out (by have h1 := HGL.out; have h2 := HWE.out; have h3 := HEX.out.size; have h4 := HG.out; have h5 := xdsz.out; omega)).reads.int
          rcases hq with h0 | ⟨b', off', rfl, hq⟩
          · omega
          · exact ⟨b', off', rfl, by rw [hq k hlt, gplaces_get S key zs.length r k hlt, hp]⟩
        obtain ⟨n0, n1, n2⟩ := HBB.out.three
        have hgc := HRR.out.cell (i := p) (by omega)
        rw [rowT_at (by rw [hlen]; exact hpl), hx] at hgc
        have hgf := HRR.out.frozen p
        have HS := Lib.hid (show (wr.setCell ⟨g, p, none⟩ (.int .i64 (x + y))).rowIs g 2 c2 (rowT (addAt (gplace S key zs.length) y zs (k + 1)) f2) from by
          have := rowT_set HRR.out (k := p) (by rw [hlen]; exact hpl) (x + y)
          show World.rowIs _ _ _ _ (rowT ((addAt (gplace S key zs.length) y zs k).set (gplace S key zs.length k) ((addAt (gplace S key zs.length) y zs k)[gplace S key zs.length k]?.getD 0 + y)) f2)
          rw [hp, hx]
          exact this)
        have hpl' : (p : Int) < (zs.length : Int) := by omega
        have hp0 : (0 : Int) ≤ (p : Int) := by omega
        clear hp hx hlen
        go_wp2
        go_roundw
        case rel => exact ⟨k + 1, by omega, by go_num, HS.out, HT.out.one _ _⟩
        case measure => simp [intOf]; omega
      · obtain rfl : k = r := by omega
        obtain ⟨NZ, hNZ⟩ : ∃ z, addAt (gplace S key zs.length) y zs k = z := ⟨_, rfl⟩
        have hNL : NZ.length = zs.length := by rw [← hNZ, addAt_length]
        have HV3 := Lib.hid (show giveT k S NZ = (V, v) by rw [← hNZ]; exact HV.out)
        have HRN := Lib.hid (show wr.rowIs g 2 c2 (rowT NZ f2) by rw [← hNZ]; exact HRR.out)
        have HON := Lib.hid (own_rowT (lo := wa.heap.size) (by omega) HG.out HRN.out)
        have HX := Lib.hid (show Ext wa wr from Touch.ext HEE.out HT.out HG.out)
        have HZN := Lib.hid (BZ1.out.on HX.out)
        have HEW := Lib.hid (X1.out.trans HX.out)
        obtain ⟨n0, n1, n2⟩ := HBB.out.three
        rw [hNL] at HON
        clear hNZ
        cases hcb : tallyB k S NZ
        · have HCB := Lib.hid hcb
          have hv := HV3.out
          rw [giveT_no hcb] at hv
          simp only [Prod.mk.injEq] at hv
          obtain ⟨rfl, rfl⟩ := hv
          clear hcb hNL
          go_wp2_with fail
          refine (c_impl_ValidTally k S _ _ _ NZ _ HCB.out (by unfold maxLen; omega) HON.out.reads).mono ?_; rintro e wz ⟨rfl, xz⟩
          have EZ := HEW.out.trans xz
          obtain ⟨z0, z1, z2⟩ := (HZN.out.on xz).three
          obtain ⟨y0, y1, y2, y3⟩ := (HZN.out.on xz).free
          clear n0 n1 n2 xz
          go_wp2
          refine bodyPost_ret (v := .tuple #[.agg #[.int .i64 0, .int .i64 0, .slice none 0 0], .bool false]) (by simp [results, Try.results63, go_sem, z0, z1, z2]) rfl ⟨none, 0, rfl, Own.nil _ _ _ _, ?_⟩
          (repeat (first | assumption | exact Ext.refl _ | (with_reducible refine Ext.stepS ?_ (by first | exact Nat.le_refl _ | (simp; done) | (simp; omega)) _) | (with_reducible refine Ext.stepN ?_ _) | (with_reducible refine Ext.stepD ?_) | (with_reducible refine Ext.stepA ?_ _)))
        · have HCB := Lib.hid hcb
          have hv := HV3.out
          rw [giveT_yes hcb] at hv
          simp only [Prod.mk.injEq] at hv
          obtain ⟨rfl, rfl⟩ := hv
          have HNL := Lib.hid hNL
          clear hcb hNL
          go_wp2_with fail
          refine (c_impl_ValidTally k S _ _ _ NZ _ HCB.out (by unfold maxLen; omega) HON.out.reads).mono ?_; rintro e wz ⟨rfl, xz⟩
          have EZ := HEW.out.trans xz
          have HOZ := Lib.hid (HON.out.on xz)
          have HSW := Lib.hid xz.size
          obtain ⟨z0, z1, z2⟩ := (HZN.out.on xz).three
          obtain ⟨y0, y1, y2, y3⟩ := (HZN.out.on xz).free
          obtain ⟨m0, m1, m2⟩ := (HBB.out.on xz).three
          have hnbz : w.heap.size + 1 ≠ nb := by have := HSZ.out; have := HNW.out; omega
          have hnbz' : nb ≠ w.heap.size + 1 := fun h => hnbz h.symm
          clear n0 n1 n2 xz
          go_wp2
          refine bodyPost_ret (v := .tuple #[.agg #[.int .i64 k, .int .i64 S, .slice (some ⟨g, 0, none⟩) zs.length c2], .bool true]) (by simp [results, Try.results63, go_sem, z0, z1, z2]) rfl ⟨some ⟨g, 0, none⟩, c2, by rw [HNL.out], ?_, ?_⟩
          · rw [HNL.out]
            refine own_touch HOZ.out (lo' := w.heap.size + 1) (hi' := w.heap.size + 2) ?_ (by have := HSZ.out; omega) (by have := HSZ.out; omega) HSW.out
            (repeat (first | assumption | exact Touch.refl _ _ _ | (with_reducible refine Touch.stepS ?_ (by first | exact Nat.le_refl _ | (simp; done) | (simp; omega)) (by first | (simp; done) | (simp; omega)) _) | (with_reducible refine Touch.stepN ?_ _) | (with_reducible refine Touch.stepA ?_ _)))
          · (repeat (first | assumption | exact Ext.refl _ | (with_reducible refine Ext.stepS ?_ (by first | exact Nat.le_refl _ | (simp; done) | (simp; omega)) _) | (with_reducible refine Ext.stepN ?_ _) | (with_reducible refine Ext.stepD ?_) | (with_reducible refine Ext.stepA ?_ _)))
end Go.Proofs.Ytfolflkbpdbkcab
