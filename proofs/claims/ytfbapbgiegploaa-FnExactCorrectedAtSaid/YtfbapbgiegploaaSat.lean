/- SignedAt: both sides. -/
import Derived.Test.YtfbapbgiegploaaSgn
import Derived.Test.YtfbapbgiegploaaMeb
import Derived.Deep.RegionHeld3
import Derived.Deep.RegionLaw
import Derived.Deep.AppendLies
namespace Go.Proofs.Ytfbapbgiegploaa
open Go.ChangeShapes Go.WideShapes Go.ChangeAt Go.RowKit
set_option linter.unusedVariables false
def sgAt (m d : Nat) (S : Int) (zs : List Int) (key : Int) : List Int := (List.range d).map fun i => zs[placeN m S key i]?.getD 0 * sgZ S key i
theorem sgAt_length (m d : Nat) (S key : Int) (zs : List Int) : (sgAt m d S zs key).length = d := by simp [sgAt]
theorem sgAt_get (m d : Nat) (S key : Int) (zs : List Int) (i : Nat) (h : i < d) : (sgAt m d S zs key)[i]?.getD 0 = zs[placeN m S key i]?.getD 0 * sgZ S key i := by simp [sgAt, h]
theorem sgAt_snoc (m k : Nat) (S key : Int) (zs : List Int) : ints (sgAt m (k + 1) S zs key) = ints (sgAt m k S zs key) ++ [.int .i64 (zs[placeN m S key k]?.getD 0 * sgZ S key k)] := by simp [sgAt, ints, List.range_succ]
def satR (W D S : Int) (zs : List Int) (key : Int) : Int × Bool := if cellsB W D S zs && keyB key then (medZ (sgAt W.toNat D.toNat S zs key), true) else (0, false)
theorem satR_y {m d : Nat} {S key : Int} {zs : List Int} (h : CellsOk m d S zs) (hk : keyB key = true) : satR m d S zs key = (medZ (sgAt m d S zs key), true) := by
  unfold satR
  rw [h.cellsB, hk]
  simp
theorem satR_no {W D S key : Int} {zs : List Int} (h : (cellsB W D S zs && keyB key) = false) : satR W D S zs key = (0, false) := by unfold satR; rw [h]; rfl
theorem ownsOn {w w' : World} {base : Nat} {e : TypeId} {size : Nat} {v : Value} {n : Nat} {xs : List Value} (h : w.ownsRow base e size v n xs) (x : Ext w w') : w'.ownsRow base e size v n xs := by
  refine ⟨h.1, ?_⟩
  rcases h.2 with h0 | ⟨g, cap, cur, rfl, hb, hg, rest⟩
  · exact .inl h0
  · exact .inr ⟨g, cap, cur, rfl, hb, (Below.block x g (Array.getElem?_eq_some_iff.1 hg).1).trans hg, rest⟩
theorem cellOn {w w' : World} {b o : Nat} {v : Value} (h : w.cell? ⟨b, o, none⟩ = some v) (e : Ext w w') : w'.cell? ⟨b, o, none⟩ = some v := by
  rw [e.cell b o (World.block_lt_of_cell? w ⟨b, o, none⟩ h)]; exact h
theorem boxOther {w : World} {b : Nat} {t : TypeId} {vs : Array Value} (h : Box w b t vs) {a : Addr} (ha : b ≠ a.block) (v : Value) : Box (w.setCell a v) b t vs := (Below.heap_setCell _ _ _ _ (fun e => ha e)).trans h
theorem wrap_sgc {y s : Int} (hs : s = 1 ∨ s = -1) (h0 : -1000000000000 ≤ y) (h1 : y ≤ 1000000000000) : IntKind.i64.wrap (y * s) = y * s ∧ -1000000000000 ≤ y * s ∧ y * s ≤ 1000000000000 := by
  rcases hs with rfl | rfl
  · rw [Int.mul_one]; exact ⟨wrap_mid (by omega) (by omega), h0, h1⟩
  · have e : y * -1 = -y := by omega
    rw [e]; exact ⟨wrap_mid (by omega) (by omega), by omega, by omega⟩
theorem CellsOk.at2 {m d : Nat} {S : Int} {zs : List Int} (h : CellsOk m d S zs) (key : Int) {k : Nat} (hk : k < d) : -1000000000000 ≤ zs[placeN m S key k]?.getD 0 ∧ zs[placeN m S key k]?.getD 0 ≤ 1000000000000 :=
  manyB_at h.many (by rw [h.len]; exact placeN_lt S key (by have := h.m2; omega) hk)
theorem upd_id_get (f : Nat → Int → Int) (zs : List Int) : ∀ (k i : Nat), (upd (fun i => i) f zs k)[i]?.getD 0 = if i < k ∧ i < zs.length then f i (zs[i]?.getD 0) else zs[i]?.getD 0
  | 0, i => by simp [upd]
  | k + 1, i => by
    show ((upd (fun i => i) f zs k).set k (f k (zs[k]?.getD 0)))[i]?.getD 0 = _
    by_cases hk : k < zs.length
    · rw [getD_set _ k i _ (by rw [upd_length]; exact hk), upd_id_get f zs k i]
      by_cases e : i = k
      · subst e; simp [hk]
      · have e2 : (i < k + 1) = (i < k) := by apply propext; omega
        simp [e, e2]
    · rw [List.set_eq_of_length_le (by rw [upd_length]; omega), upd_id_get f zs k i]
      by_cases e : i < zs.length
      · have e2 : i < k + 1 := by omega
        have e3 : i < k := by omega
        simp [e, e2, e3]
      · simp [e]
theorem sgAt_upd (m d : Nat) (S key : Int) (zs : List Int) : upd (fun i => i) (fun i c => c * sgZ S key i) (atZ m d S zs key) d = sgAt m d S zs key := by
  apply List.ext_getElem?
  intro i
  by_cases h : i < d
  · have h1 := upd_id_get (fun i c => c * sgZ S key i) (atZ m d S zs key) d i
    rw [if_pos ⟨h, by rw [atZ_length]; exact h⟩, atZ_get m d S key zs i h] at h1
    have h2 := sgAt_get m d S key zs i h
    have l1 : i < (upd (fun i => i) (fun i c => c * sgZ S key i) (atZ m d S zs key) d).length := by rw [upd_length, atZ_length]; exact h
    have l2 : i < (sgAt m d S zs key).length := by rw [sgAt_length]; exact h
    rw [List.getElem?_eq_getElem l1] at h1 ⊢
    rw [List.getElem?_eq_getElem l2] at h2 ⊢
    simp only [Option.getD_some] at h1 h2
    rw [h1, h2]
  · rw [List.getElem?_eq_none (by rw [upd_length, atZ_length]; omega), List.getElem?_eq_none (by rw [sgAt_length]; omega)]
set_option maxHeartbeats 4000000 in
theorem c_impl_SignedAt (W D S : Int) (a : Option Addr) (n cap : Nat) (zs : List Int) (key : Int) (w : World) {v : Int} {b : Bool} (hv : satR W D S zs key = (v, b)) (hm : n ≤ maxLen) (h : Reads w a n (ints zs)) :
    Calls Try.prog 44 #[.agg #[.int .i64 W, .int .i64 D, .int .i64 S, .slice a n cap], .int .i64 key] w fun e w' => e = .returned (.tuple #[.int .i64 v, .bool b]) ∧ Ext w w' := by
  have H := Lib.hid h
  have BX := Lib.hid (Box.alloc w #[.int .i64 W, .int .i64 D, .int .i64 S, .slice a n cap] 57)
  by_cases hp : cellsB W D S zs = true ∧ keyB key = true
  · obtain ⟨m, d, rfl, rfl, ok⟩ := cells_ok hp.1
    rw [satR_y ok hp.2] at hv
    simp only [Prod.mk.injEq] at hv
    obtain ⟨rfl, rfl⟩ := hv
    have hd1 := ok.d1
    have hd6 := ok.d6
    have OK := Lib.hid ok
    have HK := Lib.hid hp.2
    clear ok hp h
    go_enter Try.func44, Try.ntmps44
    go_wp2_with fail
    refine (c_impl_countsAt m d S _ _ cap zs key _ OK.out HK.out (H.out.on (by (repeat (first | assumption | exact Ext.refl _ | (with_reducible refine Ext.stepS ?_ (by first | exact Nat.le_refl _ | (simp; done) | (simp; omega)) _) | (with_reducible refine Ext.stepN ?_ _) | (with_reducible refine Ext.stepD ?_) | (with_reducible refine Ext.stepA ?_ _)))))).mono ?_; rintro e wa ⟨pa, pc, rfl, o', x'⟩
    obtain ⟨g, f, rfl, hg, hgh, hpl, hpc, hrow⟩ := o'.rowT (by omega)
    have X1 := Lib.hid (show Ext w wa from (Ext.alloc _ _).trans x')
    have BX1 := Lib.hid (BX.out.on x')
    have HG := Lib.hid (show w.heap.size + 1 ≤ g from Nat.le_trans (by first | omega | (simp; done) | (simp; omega)) hg)
    have HR := Lib.hid hrow
    have HPC := Lib.hid hpc
    clear o' x' hg hgh hpl hrow hpc
    go_wp2
    go_loopw [19] (fun i wr => ∃ k : Nat, k ≤ d ∧ i = .int .i64 k ∧ wr.rowIs g 2 pc (rowT (upd (fun i => i) (fun i c => c * sgZ S key i) (atZ m d S zs key) k) f) ∧ Box wr w.heap.size 57 #[.int .i64 m, .int .i64 d, .int .i64 S, .slice a n cap] ∧ Ext w wr) (fun i _ => d - (intOf i).toNat)
    case atStart => exact ⟨0, Nat.zero_le _, rfl, HR.out, BX1.out, X1.out⟩
    case round =>
      obtain ⟨k, hk, rfl, hrow, hbox, hext⟩ := hrel
      have HRR := Lib.hid hrow
      have HBB := Lib.hid hbox
      have HEE := Lib.hid hext
      clear hrow hbox hext
      by_cases hlt : k < d
      · obtain ⟨x, hx⟩ : ∃ x, zs[placeN m S key k]?.getD 0 = x := ⟨_, rfl⟩
        obtain ⟨x0, x1⟩ := OK.out.at2 key hlt
        rw [hx] at x0 x1
        obtain ⟨sg, hsg⟩ : ∃ s, sgZ S key k = s := ⟨_, rfl⟩
        have HSG := Lib.hid hsg
        have hone := sgZ_one S key k HK.out
        rw [hsg] at hone
        obtain ⟨y1, y2, y3⟩ := wrap_sgc hone x0 x1
        obtain ⟨pr, hpr⟩ : ∃ p, x * sg = p := ⟨_, rfl⟩
        have HPR := Lib.hid hpr
        have hy4 : IntKind.i64.wrap (x * sg) = pr := by rw [y1, hpr]
        have hlen : (upd (fun i => i) (fun i c => c * sgZ S key i) (atZ m d S zs key) k).length = d := by rw [upd_length, atZ_length]
        have hget : (upd (fun i => i) (fun i c => c * sgZ S key i) (atZ m d S zs key) k)[k]?.getD 0 = x := by
          rw [upd_id_get, if_neg (by omega), atZ_get m d S key zs k hlt, hx]
        have hcell := HRR.out.cell (i := k) (by have := HPC.out; omega)
        rw [rowT_at (by rw [hlen]; exact hlt), hget] at hcell
        have hfro := HRR.out.frozen k
        obtain ⟨b0, b1, b2, b3⟩ := HBB.out.four
        have HL := Lib.hid hlen
        have HS1 := Lib.hid (show (atZ m d S zs key)[k]?.getD 0 = x by rw [atZ_get m d S key zs k hlt, hx])
        have HGK := Lib.hid hget
        clear hx hsg hone y1 y2 y3 hpr hlen hget
        go_wp2_with fail
        go_region_with (go_at_call 135; refine (c_impl_signIn m d S key a n cap k _ (by omega) OK.out.key HK.out HSG.out).mono ?_; rintro e wd ⟨rfl, xd⟩; have ED : Ext wr wd := Ext.trans (by (repeat (first | assumption | exact Ext.refl _ | (with_reducible refine Ext.stepS ?_ (by first | exact Nat.le_refl _ | (simp; done) | (simp; omega)) _) | (with_reducible refine Ext.stepN ?_ _) | (with_reducible refine Ext.stepD ?_) | (with_reducible refine Ext.stepA ?_ _)))) xd; have hgc2 := (rowIs_on HRR.out ED).cell (i := k) (by have := HPC.out; omega); rw [rowT_at (by rw [HL.out]; exact hlt), HGK.out] at hgc2; have hgf2 := (rowIs_on HRR.out ED).frozen k; have HED := Lib.hid ED; clear ED xd)
        all_goals
          clear b0 b1 b2 b3 hcell hfro
          go_wp2
          go_roundw
          case rel =>
            refine ⟨k + 1, by omega, by go_num, ?_, boxOther (HBB.out.on HED.out) (by have := HG.out; simp; omega) _, (HEE.out.trans HED.out).stepS (by have := HG.out; simp; omega) _⟩
            have := rowT_set (rowIs_on HRR.out HED.out) (k := k) (by rw [HL.out]; exact hlt) pr
            show World.rowIs _ _ _ _ (rowT ((upd (fun i => i) (fun i c => c * sgZ S key i) (atZ m d S zs key) k).set k ((atZ m d S zs key)[k]?.getD 0 * sgZ S key k)) f)
            rw [HS1.out, HSG.out, HPR.out]
            exact this
          case measure => simp [intOf]; omega
      · obtain rfl : k = d := by omega
        have hrow := HRR.out
        rw [sgAt_upd] at hrow
        have HRS := Lib.hid hrow
        clear hrow
        go_wp2_with fail
        refine (c_medianOf g k pc (sgAt m k S zs key) f _ hd1 (by omega) (sgAt_length _ _ _ _ _) HPC.out HRS.out).mono ?_; rintro e wz ⟨rfl, tz⟩
        have XZ : Ext w wz := Touch.ext HEE.out tz (by have := HG.out; omega)
        clear tz
        go_wp2
        go_ret2
        exact ⟨rfl, XZ⟩
  · rw [satR_no (both_no hp)] at hv
    simp only [Prod.mk.injEq] at hv
    obtain ⟨rfl, rfl⟩ := hv
    have HV := Lib.hid (placesR_no (both_no hp))
    clear hp h
    go_enter Try.func44, Try.ntmps44
    go_wp2_with fail
    refine (c_impl_countsAt_no W D S _ _ cap zs key _ HV.out hm (H.out.on (by (repeat (first | assumption | exact Ext.refl _ | (with_reducible refine Ext.stepS ?_ (by first | exact Nat.le_refl _ | (simp; done) | (simp; omega)) _) | (with_reducible refine Ext.stepN ?_ _) | (with_reducible refine Ext.stepD ?_) | (with_reducible refine Ext.stepA ?_ _)))))).mono ?_; rintro e wa ⟨⟨pa, pc, rfl⟩, x'⟩
    have X1 : Ext w wa := (Ext.alloc _ _).trans x'
    clear x'
    go_wp2
    go_ret2
    exact ⟨rfl, X1⟩
end Go.Proofs.Ytfbapbgiegploaa
