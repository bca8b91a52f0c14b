/- PutSigned: both sides. -/
import Derived.Test.YtjckikcndoobnaaChe
import Derived.Test.YtjckikcndoobnaaCau
import Derived.Test.YtjckikcndoobnaaTot
import Derived.Test.YtjckikcndoobnaaPcr
namespace Go.Proofs.Ytjckikcndoobnaa
open Go.ChangeShapes Go.WideShapes Go.ChangeAt Go.RowKit
set_option linter.unusedVariables false
/-- the sign of a key in a row -/
def sgZ (S key : Int) (i : Nat) : Int := signV key (saltZ S (1000 + i))
theorem sgZ_one (S key : Int) (i : Nat) (hk : keyB key = true) : sgZ S key i = 1 ∨ sgZ S key i = -1 := by
  have hb : (keyB key && keyB (saltZ S (1000 + i))) = true := by rw [hk, saltZ_key]; rfl
  unfold sgZ
  by_cases h : hashN key (saltZ S (1000 + i)) < 2147483648
  · exact .inl (signV_low hb h)
  · exact .inr (signV_high hb h)
def sigR (W D S : Int) (zs : List Int) (key y : Int) : CV × Bool := if cellsB W D S zs && keyB key && inB (-1000000) y 1000000 then changeR W.toNat D.toNat S (upd (placeN W.toNat S key) (fun k c => c + y * sgZ S key k) zs D.toNat) else (CV.no, false)
theorem sigR_1 {W D S key y : Int} {zs : List Int} (h : cellsB W D S zs = false) : sigR W D S zs key y = (CV.no, false) := by unfold sigR; rw [h]; rfl
theorem sigR_2 {W D S key y : Int} {zs : List Int} (h : keyB key = false) : sigR W D S zs key y = (CV.no, false) := by unfold sigR; rw [h, Bool.and_false]; rfl
theorem sigR_3 {W D S key y : Int} {zs : List Int} (h : inB (-1000000) y 1000000 = false) : sigR W D S zs key y = (CV.no, false) := by unfold sigR; rw [h, Bool.and_false]; rfl
theorem sigR_y {m d : Nat} {S key y : Int} {zs : List Int} (h : CellsOk m d S zs) (hk : keyB key = true) (hy : inB (-1000000) y 1000000 = true) : sigR m d S zs key y = changeR m d S (upd (placeN m S key) (fun k c => c + y * sgZ S key k) zs d) := by
  unfold sigR
  rw [h.cellsB, hk, hy]
  simp
theorem sigR_le {W D S key y : Int} {zs rz : List Int} {rW rD rS : Int} {rb : Bool} (h : sigR W D S zs key y = (⟨rW, rD, rS, rz⟩, rb)) : rz.length ≤ 1048576 := by
  unfold sigR at h
  split at h
  · exact changeR_le h
  · exact no_le h
theorem wrap_sg {y s : Int} (hs : s = 1 ∨ s = -1) (h0 : -1000000 ≤ y) (h1 : y ≤ 1000000) : IntKind.i64.wrap (y * s) = y * s ∧ -1000000 ≤ y * s ∧ y * s ≤ 1000000 := by
  rcases hs with rfl | rfl
  · rw [Int.mul_one]; exact ⟨wrap_mid (by omega) (by omega), h0, h1⟩
  · have e : y * -1 = -y := by omega
    rw [e]; exact ⟨wrap_mid (by omega) (by omega), by omega, by omega⟩
theorem c_impl_SignOf_v (key salt v : Int) (w : World) (hk : keyB key = true) (hs : keyB salt = true) (hv : signV key salt = v) : Calls Try.prog 97 #[.int .i64 key, .int .i64 salt] w fun e w' => e = .returned (.tuple #[.int .i64 v, .bool true]) ∧ w = w' := by
  have := c_impl_SignOf key salt w
  rw [hk, hs, hv] at this
  exact this
theorem c_impl_saltAfter_e (S : Int) (i : Nat) (z : Int) (w : World) (hs : keyB S = true) (hi : i ≤ 1000000) (hz : saltZ S i = z) {ri : Int} (hri : (i : Int) = ri) : Calls Try.prog 94 #[.int .i64 S, .int .i64 ri] w fun e w' => e = .returned (.int .i64 z) ∧ w = w' := by
  subst hri; exact (c_impl_saltAfter_v S i z w hs hi hz).mono (by rintro e w' ⟨rfl, rfl⟩; exact ⟨rfl, rfl⟩)
theorem c_impl_signIn (W D S key : Int) (a : Option Addr) (n cap i : Nat) (w : World) (hi : i ≤ 6) (hs : keyB S = true) (hk : keyB key = true) {v : Int} (hv : sgZ S key i = v) :
    Calls Try.prog 88 #[.agg #[.int .i64 W, .int .i64 D, .int .i64 S, .slice a n cap], .int .i64 key, .int .i64 i] w fun e w' => e = .returned (.int .i64 v) ∧ Ext w w' := by
  obtain ⟨z, hz⟩ : ∃ z, saltZ S (1000 + i) = z := ⟨_, rfl⟩
  have HZ := Lib.hid hz
  have HK := Lib.hid hk
  have HS := Lib.hid hs
  have HZK := Lib.hid (show keyB z = true by rw [← hz]; exact saltZ_key S _)
  have HV := Lib.hid (show signV key z = v by rw [← hz]; exact hv)
  have e1 : ((1000 + i : Nat) : Int) = 1000 + (i : Int) := by omega
  have E := Lib.hid e1
  clear hz hk hs hv e1
  go_enter Try.func88, Try.ntmps88
  go_wp2_with fail
  refine (c_impl_saltAfter_e S (1000 + i) z _ HS.out (by omega) HZ.out E.out).mono ?_; rintro e w' ⟨rfl, rfl⟩
  go_wp2_with fail
  refine (c_impl_SignOf_v key z v _ HK.out HZK.out HV.out).mono ?_; rintro e w' ⟨rfl, rfl⟩
  go_wp2
  go_ret
  exact ⟨rfl, by (repeat (first | assumption | exact Ext.refl _ | (with_reducible refine Ext.stepS ?_ (by first | exact Nat.le_refl _ | (simp; done) | (simp; omega)) _) | (with_reducible refine Ext.stepN ?_ _) | (with_reducible refine Ext.stepD ?_) | (with_reducible refine Ext.stepA ?_ _)))⟩
set_option maxHeartbeats 2000000 in
theorem c_PutSigned1 (W D S key y x : Int) (a : Option Addr) (n cap k q1 q2 q3 : Nat) (w : World) (hi : k ≤ 6) (hs : keyB S = true) (hk : keyB key = true) (x0 : -1000000000000 ≤ x) (x1 : x ≤ 1000000000000) (y0 : -1000000 ≤ y) (y1 : y ≤ 1000000)
    (hq1 : w.cell? ⟨q1, 0, none⟩ = some (.int .i64 y)) (hq2 : Box w q2 27 #[.int .i64 W, .int .i64 D, .int .i64 S, .slice a n cap]) (hq3 : w.cell? ⟨q3, 0, none⟩ = some (.int .i64 key)) :
    Calls Try.prog 87 #[.int .i64 k, .int .i64 x, .pointer (some ⟨q1, 0, none⟩), .pointer (some ⟨q2, 0, none⟩), .pointer (some ⟨q3, 0, none⟩)] w fun e w' => e = .returned (.int .i64 (x + y * sgZ S key k)) ∧ Ext w w' := by
  obtain ⟨s, hsg⟩ : ∃ s, sgZ S key k = s := ⟨_, rfl⟩
  have hone := sgZ_one S key k hk
  rw [hsg] at hone ⊢
  obtain ⟨h1, h2, h3⟩ := wrap_sg hone y0 y1
  obtain ⟨p, hp⟩ : ∃ p, y * s = p := ⟨_, rfl⟩
  rw [hp] at h1 h2 h3 ⊢
  have HP := Lib.hid hp
  have h4 : IntKind.i64.wrap (x + p) = x + p := wrap_mid (by omega) (by omega)
  have HK := Lib.hid hk
  have HS := Lib.hid hs
  have HSG := Lib.hid hsg
  have HB := Lib.hid hq2
  obtain ⟨b0, b1, b2, b3⟩ := hq2.four
  have L1 := World.block_lt_of_cell? w _ hq1
  have L3 := World.block_lt_of_cell? w _ hq3
  have HQ1 := Lib.hid hq1
  have HQ3 := Lib.hid hq3
  have hp2 : IntKind.i64.wrap (y * s) = p := by rw [hp]; exact h1
  clear hk hs hsg hq2 hone h1 hp
  go_enter Try.func87, Try.ntmps87
  go_wp2_with fail
  go_region_held3 (fun w' => w'.cell? ⟨q1, 0, none⟩ = some (.int .i64 y) ∧ w'.cell? ⟨q2, 0, none⟩ = some (.int .i64 W) ∧ w'.cell? ⟨q2, 1, none⟩ = some (.int .i64 D) ∧ w'.cell? ⟨q2, 2, none⟩ = some (.int .i64 S) ∧ w'.cell? ⟨q2, 3, none⟩ = some (.slice a n cap) ∧ w'.cell? ⟨q3, 0, none⟩ = some (.int .i64 key)) (first | exact ⟨K1, KA.1, KA.2.1, KA.2.2.1, KA.2.2.2, K3⟩ | go_keep)
    (first | (go_at_call 88; refine (c_impl_signIn W D S key a n cap k _ hi HS.out HK.out HSG.out).mono ?_; rintro e wb ⟨rfl, x2⟩; have EA : Ext w wb := Ext.trans (by (repeat (first | assumption | exact Ext.refl _ | (with_reducible refine Ext.stepS ?_ (by first | exact Nat.le_refl _ | (simp; done) | (simp; omega)) _) | (with_reducible refine Ext.stepN ?_ _) | (with_reducible refine Ext.stepD ?_) | (with_reducible refine Ext.stepA ?_ _)))) x2; have KA := (HB.out.on EA).four; have K1 := (EA.cell q1 0 L1).trans HQ1.out; have K3 := (EA.cell q3 0 L3).trans HQ3.out; have EH := Lib.hid EA; clear x2 EA))
  go_wp2
  go_ret
  exact ⟨rfl, EH.out⟩
set_option maxHeartbeats 2000000 in
theorem c_impl_PutSigned (W D S : Int) (a : Option Addr) (n cap : Nat) (zs : List Int) (key y : Int) (w : World) {R : CV} {r : Bool} (hv : sigR W D S zs key y = (R, r)) (hm : n ≤ maxLen) (h : Reads w a n (ints zs)) :
    Calls Try.prog 44 #[.agg #[.int .i64 W, .int .i64 D, .int .i64 S, .slice a n cap], .int .i64 key, .int .i64 y] w (RetCB 2 R r w) := by
  have H := Lib.hid h
  have hn := h.int.1
  clear h
  cases hy : inB (-1000000) y 1000000
  · rw [sigR_3 hy] at hv
    simp only [Prod.mk.injEq] at hv
    obtain ⟨rfl, rfl⟩ := hv
    have HY := Lib.hid hy
    clear hy hn
    go_enter Try.func44, Try.ntmps44
    go_wp2_with (go_at_call 69; refine (c_impl_isWithin_e y 1000000 _ (by decide) (by decide) HY.out).mono ?_; rintro e w' ⟨rfl, rfl⟩)
    refine bodyPost_ret (v := .tuple #[.agg #[.int .i64 0, .int .i64 0, .int .i64 0, .slice none 0 0], .bool false]) (by simp [results, Try.results44, go_sem]) rfl ⟨none, 0, rfl, Own.nil _ _ _ _, ?_⟩
    (repeat (first | assumption | exact Ext.refl _ | (with_reducible refine Ext.stepS ?_ (by first | exact Nat.le_refl _ | (simp; done) | (simp; omega)) _) | (with_reducible refine Ext.stepN ?_ _) | (with_reducible refine Ext.stepD ?_) | (with_reducible refine Ext.stepA ?_ _)))
  · have HY := Lib.hid hy
    have BX := Lib.hid ((((Box.alloc w #[.int .i64 W, .int .i64 D, .int .i64 S, .slice a n cap] 27).past (.cells #[.int .i64 key] 2)).past (.cells #[.int .i64 y] 2)).past (.cells #[.int .i64 0, .int .i64 0, .int .i64 0, .slice none 0 0] 27))
    have BK := Lib.hid (((Box.alloc_at (w.alloc (.cells #[.int .i64 W, .int .i64 D, .int .i64 S, .slice a n cap] 27)) #[.int .i64 key] 2 (b := w.heap.size + 1) (by simp)).past (.cells #[.int .i64 y] 2)).past (.cells #[.int .i64 0, .int .i64 0, .int .i64 0, .slice none 0 0] 27))
    have BY := Lib.hid ((Box.alloc_at ((w.alloc (.cells #[.int .i64 W, .int .i64 D, .int .i64 S, .slice a n cap] 27)).alloc (.cells #[.int .i64 key] 2)) #[.int .i64 y] 2 (b := w.heap.size + 2) (by simp)).past (.cells #[.int .i64 0, .int .i64 0, .int .i64 0, .slice none 0 0] 27))
    have BZ := Lib.hid (Box.alloc_at (((w.alloc (.cells #[.int .i64 W, .int .i64 D, .int .i64 S, .slice a n cap] 27)).alloc (.cells #[.int .i64 key] 2)).alloc (.cells #[.int .i64 y] 2)) #[.int .i64 0, .int .i64 0, .int .i64 0, .slice none 0 0] 27 (b := w.heap.size + 3) (by simp))
    by_cases hp : cellsB W D S zs = true ∧ keyB key = true
    · obtain ⟨m, d, rfl, rfl, ok⟩ := cells_ok hp.1
      rw [sigR_y ok hp.2 hy] at hv
      obtain ⟨y0, y1⟩ := inB_is.1 hy
      have HV := Lib.hid hv
      have OK := Lib.hid ok
      have HK := Lib.hid hp.2
      subst hn
      clear hv ok hp hy
      go_enter Try.func44, Try.ntmps44
      go_wp2_with (go_at_call 69; refine (c_impl_isWithin_e y 1000000 _ (by decide) (by decide) HY.out).mono ?_; rintro e w' ⟨rfl, rfl⟩)
      refine (c_change_PutSigned m d S a zs.length cap zs key (w.heap.size + 2) w.heap.size (w.heap.size + 1) (fun k c => c + y * sgZ S key k) _ OK.out HK.out (H.out.on (by (repeat (first | assumption | exact Ext.refl _ | (with_reducible refine Ext.stepS ?_ (by first | exact Nat.le_refl _ | (simp; done) | (simp; omega)) _) | (with_reducible refine Ext.stepN ?_ _) | (with_reducible refine Ext.stepD ?_) | (with_reducible refine Ext.stepA ?_ _))))) ?hf HV.out).mono ?_
      case hf =>
        intro k u hk hu
        have hb := manyB_at OK.out.many (i := placeN m S key k) (by rw [OK.out.len]; exact placeN_lt S key (by have := OK.out.m2; omega) hk)
        exact c_PutSigned1 m d S key y _ a zs.length cap k _ _ _ u (by have := OK.out.d6; omega) OK.out.key HK.out hb.1 hb.2 y0 y1 ((BY.out.on hu).cell 0) (BX.out.on hu) ((BK.out.on hu).cell 0)
      rintro e wa ⟨ra, rc, rfl, o', x'⟩
      have X1 : Ext w wa := Ext.trans (by (repeat (first | assumption | exact Ext.refl _ | (with_reducible refine Ext.stepS ?_ (by first | exact Nat.le_refl _ | (simp; done) | (simp; omega)) _) | (with_reducible refine Ext.stepN ?_ _) | (with_reducible refine Ext.stepD ?_) | (with_reducible refine Ext.stepA ?_ _)))) x'
      have HO := Lib.hid o'
      have HSZ := Lib.hid (show w.heap.size + 4 ≤ wa.heap.size from Nat.le_trans (by first | omega | (simp; done) | (simp; omega)) x'.size)
      have BZ1 := Lib.hid (BZ.out.on x')
      obtain ⟨z0, z1, z2, z3⟩ := BZ1.out.four
      obtain ⟨f0, f1, f2, f3⟩ := BZ1.out.free
      clear o' x'
      go_wp2
      refine bodyPost_ret (v := .tuple #[.agg #[.int .i64 R.W, .int .i64 R.D, .int .i64 R.S, .slice ra R.zs.length rc], .bool r]) (by simp [results, Try.results44, go_sem, z0, z1, z2, z3]) rfl ⟨_, _, rfl, ?_, ?_⟩
      · refine own_touch HO.out (lo' := w.heap.size + 3) (hi' := w.heap.size + 4) ?_ (by first | omega | (simp; done) | (simp; omega)) (by first | omega | (simp; done) | (simp; omega)) (Nat.le_refl _)
        (repeat (first | assumption | exact Touch.refl _ _ _ | (with_reducible refine Touch.stepS ?_ (by first | exact Nat.le_refl _ | (simp; done) | (simp; omega)) (by first | (simp; done) | (simp; omega)) _) | (with_reducible refine Touch.stepN ?_ _) | (with_reducible refine Touch.stepA ?_ _)))
      · (repeat (first | assumption | exact Ext.refl _ | (with_reducible refine Ext.stepS ?_ (by first | exact Nat.le_refl _ | (simp; done) | (simp; omega)) _) | (with_reducible refine Ext.stepN ?_ _) | (with_reducible refine Ext.stepD ?_) | (with_reducible refine Ext.stepA ?_ _)))
    · have hpl : placesR W D S zs key = ([], false) := by
        cases hc : cellsB W D S zs
        · exact placesR_1 hc
        · cases hk : keyB key
          · exact placesR_2 hk
          · exact absurd ⟨hc, hk⟩ hp
      have hvn : sigR W D S zs key y = (CV.no, false) := by
        cases hc : cellsB W D S zs
        · exact sigR_1 hc
        · cases hk : keyB key
          · exact sigR_2 hk
          · exact absurd ⟨hc, hk⟩ hp
      rw [hvn] at hv
      simp only [Prod.mk.injEq] at hv
      obtain ⟨rfl, rfl⟩ := hv
      have HPL := Lib.hid hpl
      clear hpl hvn hp hy hn
      go_enter Try.func44, Try.ntmps44
      go_wp2_with (go_at_call 69; refine (c_impl_isWithin_e y 1000000 _ (by decide) (by decide) HY.out).mono ?_; rintro e w' ⟨rfl, rfl⟩)
      refine (c_change_no W D S a n cap zs key _ _ HPL.out hm (H.out.on (by (repeat (first | assumption | exact Ext.refl _ | (with_reducible refine Ext.stepS ?_ (by first | exact Nat.le_refl _ | (simp; done) | (simp; omega)) _) | (with_reducible refine Ext.stepN ?_ _) | (with_reducible refine Ext.stepD ?_) | (with_reducible refine Ext.stepA ?_ _)))))).mono ?_
      rintro e wa ⟨ra, rc, rfl, o', x'⟩
      have X1 : Ext w wa := Ext.trans (by (repeat (first | assumption | exact Ext.refl _ | (with_reducible refine Ext.stepS ?_ (by first | exact Nat.le_refl _ | (simp; done) | (simp; omega)) _) | (with_reducible refine Ext.stepN ?_ _) | (with_reducible refine Ext.stepD ?_) | (with_reducible refine Ext.stepA ?_ _)))) x'
      have HO := Lib.hid o'
      have HSZ := Lib.hid (show w.heap.size + 4 ≤ wa.heap.size from Nat.le_trans (by first | omega | (simp; done) | (simp; omega)) x'.size)
      have BZ1 := Lib.hid (BZ.out.on x')
      obtain ⟨z0, z1, z2, z3⟩ := BZ1.out.four
      obtain ⟨f0, f1, f2, f3⟩ := BZ1.out.free
      clear o' x'
      go_wp2
      refine bodyPost_ret (v := .tuple #[.agg #[.int .i64 0, .int .i64 0, .int .i64 0, .slice ra CV.no.zs.length rc], .bool false]) (by simp [results, Try.results44, go_sem, z0, z1, z2, z3]; first | done | exact ⟨rfl, rfl, rfl⟩) rfl ⟨_, _, rfl, ?_, ?_⟩
      · refine own_touch HO.out (lo' := w.heap.size + 3) (hi' := w.heap.size + 4) ?_ (by first | omega | (simp; done) | (simp; omega)) (by first | omega | (simp; done) | (simp; omega)) (Nat.le_refl _)
        (repeat (first | assumption | exact Touch.refl _ _ _ | (with_reducible refine Touch.stepS ?_ (by first | exact Nat.le_refl _ | (simp; done) | (simp; omega)) (by first | (simp; done) | (simp; omega)) _) | (with_reducible refine Touch.stepN ?_ _) | (with_reducible refine Touch.stepA ?_ _)))
      · (repeat (first | assumption | exact Ext.refl _ | (with_reducible refine Ext.stepS ?_ (by first | exact Nat.le_refl _ | (simp; done) | (simp; omega)) _) | (with_reducible refine Ext.stepN ?_ _) | (with_reducible refine Ext.stepD ?_) | (with_reducible refine Ext.stepA ?_ _)))
theorem c_spec_l02Hash_of (key salt v : Int) (w : World) (hk : keyB key = true) (hs : keyB salt = true) (hv : ((hashN key salt : Nat) : Int) = v) : Calls Try.prog 99 #[.int .i64 key, .int .i64 salt] w fun e w' => e = .returned (.int .i64 v) ∧ w = w' := by
  subst hv; exact c_spec_l02Hash key salt w hk hs
theorem c_spec_l02Sign (key salt : Int) (w : World) (hk : keyB key = true) (hs : keyB salt = true) : Calls Try.prog 96 #[.int .i64 key, .int .i64 salt] w fun e w' => e = .returned (.int .i64 (signV key salt)) ∧ w = w' := by
  have hb : (keyB key && keyB salt) = true := by rw [hk, hs]; rfl
  have HK := Lib.hid hk
  have HS := Lib.hid hs
  obtain ⟨v, hv⟩ : ∃ v : Int, ((hashN key salt : Nat) : Int) = v := ⟨_, rfl⟩
  have HW := Lib.hid hv
  by_cases hl : hashN key salt < 2147483648
  · have HV := Lib.hid (signV_low hb hl)
    have hl' : v < 2147483648 := by omega
    clear hb hl hk hs hv
    go_enter Try.func96, Try.ntmps96
    go_wp2_with (go_at_call 99; refine (c_spec_l02Hash_of key salt _ _ HK.out HS.out HW.out).mono ?_; rintro e w' ⟨rfl, rfl⟩)
    go_ret
    exact ⟨by rw [HV.out]; rfl, rfl⟩
  · have HV := Lib.hid (signV_high hb hl)
    have hl' : ¬ v < 2147483648 := by omega
    clear hb hl hk hs hv
    go_enter Try.func96, Try.ntmps96
    go_wp2_with (go_at_call 99; refine (c_spec_l02Hash_of key salt _ _ HK.out HS.out HW.out).mono ?_; rintro e w' ⟨rfl, rfl⟩)
    go_ret
    exact ⟨by rw [HV.out]; rfl, rfl⟩
theorem c_spec_l02Sign_v (key salt v : Int) (w : World) (hk : keyB key = true) (hs : keyB salt = true) (hv : signV key salt = v) : Calls Try.prog 96 #[.int .i64 key, .int .i64 salt] w fun e w' => e = .returned (.int .i64 v) ∧ w = w' := by
  subst hv; exact c_spec_l02Sign key salt w hk hs
theorem c_spec_l03Sign (b m d : Nat) (S key : Int) (a : Option Addr) (n cap i : Nat) (w : World) (hi : i ≤ 6) (hs : keyB S = true) (hk : keyB key = true) (hb : Box w b 27 #[.int .i64 m, .int .i64 d, .int .i64 S, .slice a n cap]) {v : Int} (hv : sgZ S key i = v) :
    Calls Try.prog 86 #[.pointer (some ⟨b, 0, none⟩), .int .i64 key, .int .i64 i] w fun e w' => e = .returned (.int .i64 v) ∧ w = w' := by
  obtain ⟨s0, s1⟩ := keyB_yes hs
  have hz : (S + 1000 + (i : Int)) % 4294967296 = saltZ S (1000 + i) := by unfold saltZ; omega
  obtain ⟨z, hzz⟩ : ∃ z, saltZ S (1000 + i) = z := ⟨_, rfl⟩
  have HZK := Lib.hid (show keyB z = true by rw [← hzz]; exact saltZ_key S _)
  have HV := Lib.hid (show signV key z = v by rw [← hzz]; exact hv)
  have HK := Lib.hid hk
  rw [hzz] at hz
  obtain ⟨b0, b1, b2, b3⟩ := hb.four
  clear hk hs hv hb hzz
  go_enter Try.func86, Try.ntmps86
  go_wp2_with fail
  refine (c_spec_l02Sign_v key z v _ HK.out HZK.out HV.out).mono ?_; rintro e w' ⟨rfl, rfl⟩
  go_wp2
  go_ret
  exact ⟨rfl, rfl⟩
set_option maxHeartbeats 4000000 in
theorem c_spec_PutSigned (W D S : Int) (a : Option Addr) (n cap : Nat) (zs : List Int) (key y : Int) (w : World) {R : CV} {r : Bool} (hv : sigR W D S zs key y = (R, r)) (hm : n ≤ maxLen) (h : Reads w a n (ints zs)) :
    Calls Try.prog 43 #[.agg #[.int .i64 W, .int .i64 D, .int .i64 S, .slice a n cap], .int .i64 key, .int .i64 y] w (RetCB 2 R r w) := by
  have H := Lib.hid h
  have hn := h.int.1
  have BX := Lib.hid ((Box.alloc w #[.int .i64 W, .int .i64 D, .int .i64 S, .slice a n cap] 27).past (.cells #[.int .i64 0, .int .i64 0, .int .i64 0, .slice none 0 0] 27))
  have BZ := Lib.hid (Box.alloc_at (w.alloc (.cells #[.int .i64 W, .int .i64 D, .int .i64 S, .slice a n cap] 27)) #[.int .i64 0, .int .i64 0, .int .i64 0, .slice none 0 0] 27 (b := w.heap.size + 1) (by simp))
  clear h
  by_cases hp : cellsB W D S zs = true ∧ keyB key = true ∧ inB (-1000000) y 1000000 = true
  · obtain ⟨hc, hk, hy⟩ := hp
    obtain ⟨m, d, rfl, rfl, ok⟩ := cells_ok hc
    rw [sigR_y ok hk hy] at hv
    obtain ⟨y0, y1⟩ := inB_is.1 hy
    have HV := Lib.hid hv
    have OK := Lib.hid ok
    have HK := Lib.hid hk
    have HC := Lib.hid hc
    have HY := Lib.hid hy
    subst hn
    have hn4 := ok.le
    have hd6 := ok.d6
    have hn0 : 0 < zs.length := by rw [ok.len]; exact Nat.mul_pos (by have := ok.m2; omega) ok.d1
    clear hv ok hk hy hc
    go_enter Try.func43, Try.ntmps43
    go_wp2_with (first | (go_at_call 52; refine (c_spec_l03Is _ m d S a zs.length cap zs _ HC.out BX.out hm (H.out.on (by (repeat (first | assumption | exact Ext.refl _ | (with_reducible refine Ext.stepS ?_ (by first | exact Nat.le_refl _ | (simp; done) | (simp; omega)) _) | (with_reducible refine Ext.stepN ?_ _) | (with_reducible refine Ext.stepD ?_) | (with_reducible refine Ext.stepA ?_ _)))))).mono ?_; rintro e u1 ⟨rfl, q, rfl⟩) | (go_at_call 61; refine (c_spec_l02Key_e key _ HK.out).mono ?_; rintro e w' ⟨rfl, rfl⟩) | (go_at_call 65; refine (c_l00In_e y (-1000000) 1000000 _ HY.out).mono ?_; rintro e w' ⟨rfl, rfl⟩))
    refine (c_spec_l03Own w.heap.size m d S a zs.length cap zs _ hn0 (by omega) (BX.out.on (by (repeat (first | assumption | exact Ext.refl _ | (with_reducible refine Ext.stepS ?_ (by first | exact Nat.le_refl _ | (simp; done) | (simp; omega)) _) | (with_reducible refine Ext.stepN ?_ _) | (with_reducible refine Ext.stepD ?_) | (with_reducible refine Ext.stepA ?_ _))))) (H.out.on (by (repeat (first | assumption | exact Ext.refl _ | (with_reducible refine Ext.stepS ?_ (by first | exact Nat.le_refl _ | (simp; done) | (simp; omega)) _) | (with_reducible refine Ext.stepN ?_ _) | (with_reducible refine Ext.stepD ?_) | (with_reducible refine Ext.stepA ?_ _)))))).mono ?_; rintro e wa ⟨g, c2, f2, rfl, hg, hc2, hrow, x'⟩
    have X1 := Lib.hid (show Ext w wa from Ext.trans (by (repeat (first | assumption | exact Ext.refl _ | (with_reducible refine Ext.stepS ?_ (by first | exact Nat.le_refl _ | (simp; done) | (simp; omega)) _) | (with_reducible refine Ext.stepN ?_ _) | (with_reducible refine Ext.stepD ?_) | (with_reducible refine Ext.stepA ?_ _)))) x')
    have BX1 := Lib.hid (show Box wa w.heap.size 27 _ from Box.on BX.out (Ext.trans (by (repeat (first | assumption | exact Ext.refl _ | (with_reducible refine Ext.stepS ?_ (by first | exact Nat.le_refl _ | (simp; done) | (simp; omega)) _) | (with_reducible refine Ext.stepN ?_ _) | (with_reducible refine Ext.stepD ?_) | (with_reducible refine Ext.stepA ?_ _)))) x'))
    have BZ1 := Lib.hid (show Box wa (w.heap.size + 1) 27 _ from Box.on BZ.out (Ext.trans (by (repeat (first | assumption | exact Ext.refl _ | (with_reducible refine Ext.stepS ?_ (by first | exact Nat.le_refl _ | (simp; done) | (simp; omega)) _) | (with_reducible refine Ext.stepN ?_ _) | (with_reducible refine Ext.stepD ?_) | (with_reducible refine Ext.stepA ?_ _)))) x'))
    have HG := Lib.hid (show w.heap.size + 2 ≤ g from Nat.le_trans (by first | omega | (simp; done) | (simp; omega)) hg)
    have HGL := Lib.hid hrow.lt
    have HC2 := Lib.hid hc2
    have HRW := Lib.hid (rowIs_on hrow (Ext.alloc wa (.cells #[.int .i64 m, .int .i64 d, .int .i64 S, .slice (some ⟨g, 0, none⟩) zs.length c2] 27)))
    have BO := Lib.hid (Box.alloc wa #[.int .i64 m, .int .i64 d, .int .i64 S, .slice (some ⟨g, 0, none⟩) zs.length c2] 27)
    clear hrow hg x' hc2
    go_wp2
    go_loopw [9] (fun i wr => ∃ k : Nat, k ≤ d ∧ i = .int .i64 k ∧ wr.rowIs g 2 c2 (rowT (upd (placeN m S key) (fun k c => c + y * sgZ S key k) zs k) f2) ∧ Touch g (g + 1) (wa.alloc (.cells #[.int .i64 m, .int .i64 d, .int .i64 S, .slice (some ⟨g, 0, none⟩) zs.length c2] 27)) wr) (fun i _ => d - (intOf i).toNat)
    case atStart => exact ⟨0, Nat.zero_le _, rfl, HRW.out, Touch.refl _ _ _⟩
    case round =>
      obtain ⟨k, hk, rfl, hrow, ht⟩ := hrel
      have HRR := Lib.hid hrow
      have HT := Lib.hid ht
      have BXR := Lib.hid ((BX1.out.past _).beside ht (by have := HG.out; omega))
      have BOR := Lib.hid (BO.out.beside ht (by have := HGL.out; omega))
      obtain ⟨b0, b1, b2, b3⟩ := BXR.out.four
      clear hrow ht
      by_cases hlt : k < d
      · obtain ⟨p, hp⟩ : ∃ p, placeN m S key k = p := ⟨_, rfl⟩
        have hpl : p < zs.length := by rw [← hp, OK.out.len]; exact placeN_lt S key (by have := OK.out.m2; omega) hlt
        obtain ⟨x, hx⟩ : ∃ x, zs[p]?.getD 0 = x := ⟨_, rfl⟩
        obtain ⟨sg, hsg⟩ : ∃ s, sgZ S key k = s := ⟨_, rfl⟩
        have HSG := Lib.hid hsg
        have hone := sgZ_one S key k HK.out
        rw [hsg] at hone
        obtain ⟨hy1, hy2, hy3⟩ := wrap_sg hone y0 y1
        obtain ⟨x0, x1⟩ := OK.out.at' key hlt
        rw [hp, hx] at x0 x1
        obtain ⟨pr, hpr⟩ : ∃ p, y * sg = p := ⟨_, rfl⟩
        rw [hpr] at hy1 hy2 hy3
        have hy4 : IntKind.i64.wrap (y * sg) = pr := by rw [hpr]; exact hy1
        have hy5 : IntKind.i64.wrap (x + pr) = x + pr := wrap_mid (by omega) (by omega)
        obtain ⟨z, hz⟩ : ∃ z, x + pr = z := ⟨_, rfl⟩
        rw [hz] at hy5
        have HZ := Lib.hid hz
        have HWZ := Lib.hid (show wrap64 (x + pr) = z by rw [hz]; unfold wrap64; omega)
        have hlen : (upd (placeN m S key) (fun k c => c + y * sgZ S key k) zs k).length = zs.length := by rw [upd_length]
        have hget : (upd (placeN m S key) (fun k c => c + y * sgZ S key k) zs k)[p]?.getD 0 = x := by rw [← hp, upd_get (fun i j h => placeN_mono S key (by have := OK.out.m2; omega) h) _ _ _ _ (Nat.le_refl _), hp, hx]
        have hcell := HRR.out.cell (i := p) (by have := HC2.out; omega)
        rw [rowT_at (by rw [hlen]; exact hpl), hget] at hcell
        have hfro := HRR.out.frozen p
        have HP := Lib.hid hp
        obtain ⟨n0, n1, n2, n3⟩ := BOR.out.four
        have HS := Lib.hid (show (wr.setCell ⟨g, p, none⟩ (.int .i64 z)).rowIs g 2 c2 (rowT (upd (placeN m S key) (fun k c => c + y * sgZ S key k) zs (k + 1)) f2) from by
          have := rowT_set HRR.out (k := p) (by rw [hlen]; exact hpl) z
          show World.rowIs _ _ _ _ (rowT ((upd (placeN m S key) (fun k c => c + y * sgZ S key k) zs k).set (placeN m S key k) (zs[placeN m S key k]?.getD 0 + y * sgZ S key k)) f2)
          rw [hp, hx, hsg, hpr, hz]
          exact this)
        have hpl' : (p : Int) < (zs.length : Int) := by omega
        have hp0 : (0 : Int) ≤ (p : Int) := by omega
        clear hp hx hlen hget hz hsg hpr hone hy1 hy2 hy3 x0 x1
        go_wp2_with fail
        go_region_with (first | (go_at_call 62; refine (c_spec_l03Place_v w.heap.size m d S key a zs.length cap k _ (by have := OK.out.m2; omega) OK.out.m64 (by omega) OK.out.key HK.out (BXR.out.on (by (repeat (first | assumption | exact Ext.refl _ | (with_reducible refine Ext.stepS ?_ (by first | exact Nat.le_refl _ | (simp; done) | (simp; omega)) _) | (with_reducible refine Ext.stepN ?_ _) | (with_reducible refine Ext.stepD ?_) | (with_reducible refine Ext.stepA ?_ _))))) HP.out).mono ?_; rintro e w9 ⟨rfl, q3, rfl⟩) | (go_at_call 86; refine (c_spec_l03Sign w.heap.size m d S key a zs.length cap k _ (by omega) OK.out.key HK.out (BXR.out.on (by (repeat (first | assumption | exact Ext.refl _ | (with_reducible refine Ext.stepS ?_ (by first | exact Nat.le_refl _ | (simp; done) | (simp; omega)) _) | (with_reducible refine Ext.stepN ?_ _) | (with_reducible refine Ext.stepD ?_) | (with_reducible refine Ext.stepA ?_ _))))) HSG.out).mono ?_; rintro e w' ⟨rfl, rfl⟩))
        all_goals
          clear b0 b1 b2 b3 n0 n1 n2 n3 hcell hfro
          go_wp2
          go_roundw
          case rel => exact ⟨k + 1, by omega, by go_num, by first | exact HS.out | (have hs := HS.out; rw [← HWZ.out] at hs; exact hs), (HT.out.trans (Touch.of_ext (by (repeat (first | assumption | exact Ext.refl _ | (with_reducible refine Ext.stepS ?_ (by first | exact Nat.le_refl _ | (simp; done) | (simp; omega)) _) | (with_reducible refine Ext.stepN ?_ _) | (with_reducible refine Ext.stepD ?_) | (with_reducible refine Ext.stepA ?_ _)))) _ _)).one _ _⟩
          case measure => simp [intOf]; omega
      · obtain rfl : k = d := by omega
        have X2 := Lib.hid (show Ext w wr from Touch.ext (X1.out.stepA _) HT.out (by have := HG.out; omega))
        have BZ2 := Lib.hid ((BZ1.out.past _).beside HT.out (by have := HG.out; omega))
        obtain ⟨NZ, hNZ⟩ : ∃ z, upd (placeN m S key) (fun k c => c + y * sgZ S key k) zs k = z := ⟨_, rfl⟩
        have hrow := HRR.out
        rw [hNZ] at hrow
        have hNL : NZ.length = zs.length := by rw [← hNZ, upd_length]
        have HON := Lib.hid (own_rowT (lo := w.heap.size + 2) (by have := HC2.out; omega) HG.out hrow)
        have HV3 := Lib.hid (show changeR m k S NZ = (R, r) by rw [← hNZ]; exact HV.out)
        rw [hNL] at HON
        obtain ⟨n0, n1, n2, n3⟩ := BOR.out.four
        clear hrow hNZ
        cases hcb : cellsB m k S NZ
        · have HCB := Lib.hid hcb
          have hv := HV3.out
          rw [changeR_no hcb] at hv
          simp only [Prod.mk.injEq] at hv
          obtain ⟨rfl, rfl⟩ := hv
          clear hcb hNL b0 b2 b3
          go_wp2_with fail
          refine (c_spec_l03Give_no m k S _ _ _ NZ _ HCB.out (by unfold maxLen; omega) HON.out.reads).mono ?_; rintro e wz ⟨rfl, xz⟩
          have EZ := X2.out.trans xz
          obtain ⟨z0, z1, z2, z3⟩ := (BZ2.out.on xz).four
          obtain ⟨f0, f1, f2, f3⟩ := (BZ2.out.on xz).free
          clear b1 n0 n1 n2 n3 xz
          go_wp2
          refine bodyPost_ret (v := .tuple #[.agg #[.int .i64 0, .int .i64 0, .int .i64 0, .slice none 0 0], .bool false]) (by simp [results, Try.results43, go_sem, z0, z1, z2, z3]) rfl ⟨none, 0, rfl, Own.nil _ _ _ _, ?_⟩
          (repeat (first | assumption | exact Ext.refl _ | (with_reducible refine Ext.stepS ?_ (by first | exact Nat.le_refl _ | (simp; done) | (simp; omega)) _) | (with_reducible refine Ext.stepN ?_ _) | (with_reducible refine Ext.stepD ?_) | (with_reducible refine Ext.stepA ?_ _)))
        · have HCB := Lib.hid hcb
          have hv := HV3.out
          rw [changeR_yes hcb] at hv
          simp only [Prod.mk.injEq] at hv
          obtain ⟨rfl, rfl⟩ := hv
          have HNL := Lib.hid hNL
          clear hcb hNL b0 b2 b3
          go_wp2_with fail
          refine (c_spec_l03Give m k S _ _ _ NZ _ HCB.out (by unfold maxLen; omega) HON.out.reads).mono ?_; rintro e wz ⟨rfl, xz⟩
          have EZ := X2.out.trans xz
          have HOZ := Lib.hid (HON.out.on xz)
          have HSW := Lib.hid xz.size
          obtain ⟨z0, z1, z2, z3⟩ := (BZ2.out.on xz).four
          obtain ⟨f0, f1, f2, f3⟩ := (BZ2.out.on xz).free
          clear b1 n0 n1 n2 n3 xz
          go_wp2
          refine bodyPost_ret (v := .tuple #[.agg #[.int .i64 m, .int .i64 k, .int .i64 S, .slice (some ⟨g, 0, none⟩) zs.length c2], .bool true]) (by simp [results, Try.results43, go_sem, z0, z1, z2, z3]) rfl ⟨some ⟨g, 0, none⟩, c2, by rw [HNL.out], ?_, ?_⟩
          · rw [HNL.out]
            refine own_touch HOZ.out (lo' := w.heap.size + 1) (hi' := w.heap.size + 2) ?_ (by first | omega | (simp; done) | (simp; omega)) (by omega) HSW.out
            (repeat (first | assumption | exact Touch.refl _ _ _ | (with_reducible refine Touch.stepS ?_ (by first | exact Nat.le_refl _ | (simp; done) | (simp; omega)) (by first | (simp; done) | (simp; omega)) _) | (with_reducible refine Touch.stepN ?_ _) | (with_reducible refine Touch.stepA ?_ _)))
          · (repeat (first | assumption | exact Ext.refl _ | (with_reducible refine Ext.stepS ?_ (by first | exact Nat.le_refl _ | (simp; done) | (simp; omega)) _) | (with_reducible refine Ext.stepN ?_ _) | (with_reducible refine Ext.stepD ?_) | (with_reducible refine Ext.stepA ?_ _)))
  · cases hc : cellsB W D S zs
    · rw [sigR_1 hc] at hv
      simp only [Prod.mk.injEq] at hv
      obtain ⟨rfl, rfl⟩ := hv
      have HC := Lib.hid hc
      clear hc hp hn
      go_enter Try.func43, Try.ntmps43
      go_wp2_with (go_at_call 52; refine (c_spec_l03Is _ W D S a n cap zs _ HC.out BX.out hm (H.out.on (by (repeat (first | assumption | exact Ext.refl _ | (with_reducible refine Ext.stepS ?_ (by first | exact Nat.le_refl _ | (simp; done) | (simp; omega)) _) | (with_reducible refine Ext.stepN ?_ _) | (with_reducible refine Ext.stepD ?_) | (with_reducible refine Ext.stepA ?_ _)))))).mono ?_; rintro e u1 ⟨rfl, q, rfl⟩)
      refine bodyPost_ret (v := .tuple #[.agg #[.int .i64 0, .int .i64 0, .int .i64 0, .slice none 0 0], .bool false]) (by simp [results, Try.results43, go_sem]) rfl ⟨none, 0, rfl, Own.nil _ _ _ _, ?_⟩
      (repeat (first | assumption | exact Ext.refl _ | (with_reducible refine Ext.stepS ?_ (by first | exact Nat.le_refl _ | (simp; done) | (simp; omega)) _) | (with_reducible refine Ext.stepN ?_ _) | (with_reducible refine Ext.stepD ?_) | (with_reducible refine Ext.stepA ?_ _)))
    · cases hk : keyB key
      · rw [sigR_2 hk] at hv
        simp only [Prod.mk.injEq] at hv
        obtain ⟨rfl, rfl⟩ := hv
        have HC := Lib.hid hc
        have HK := Lib.hid hk
        clear hc hp hk hn
        go_enter Try.func43, Try.ntmps43
        go_wp2_with (first | (go_at_call 52; refine (c_spec_l03Is _ W D S a n cap zs _ HC.out BX.out hm (H.out.on (by (repeat (first | assumption | exact Ext.refl _ | (with_reducible refine Ext.stepS ?_ (by first | exact Nat.le_refl _ | (simp; done) | (simp; omega)) _) | (with_reducible refine Ext.stepN ?_ _) | (with_reducible refine Ext.stepD ?_) | (with_reducible refine Ext.stepA ?_ _)))))).mono ?_; rintro e u1 ⟨rfl, q, rfl⟩) | (go_at_call 61; refine (c_spec_l02Key_e key _ HK.out).mono ?_; rintro e w' ⟨rfl, rfl⟩))
        refine bodyPost_ret (v := .tuple #[.agg #[.int .i64 0, .int .i64 0, .int .i64 0, .slice none 0 0], .bool false]) (by simp [results, Try.results43, go_sem]) rfl ⟨none, 0, rfl, Own.nil _ _ _ _, ?_⟩
        (repeat (first | assumption | exact Ext.refl _ | (with_reducible refine Ext.stepS ?_ (by first | exact Nat.le_refl _ | (simp; done) | (simp; omega)) _) | (with_reducible refine Ext.stepN ?_ _) | (with_reducible refine Ext.stepD ?_) | (with_reducible refine Ext.stepA ?_ _)))
      · have hy : inB (-1000000) y 1000000 = false := by
          cases h : inB (-1000000) y 1000000
          · rfl
          · exact absurd ⟨hc, hk, h⟩ hp
        rw [sigR_3 hy] at hv
        simp only [Prod.mk.injEq] at hv
        obtain ⟨rfl, rfl⟩ := hv
        have HC := Lib.hid hc
        have HK := Lib.hid hk
        have HY := Lib.hid hy
        clear hc hp hk hy hn
        go_enter Try.func43, Try.ntmps43
        go_wp2_with (first | (go_at_call 52; refine (c_spec_l03Is _ W D S a n cap zs _ HC.out BX.out hm (H.out.on (by (repeat (first | assumption | exact Ext.refl _ | (with_reducible refine Ext.stepS ?_ (by first | exact Nat.le_refl _ | (simp; done) | (simp; omega)) _) | (with_reducible refine Ext.stepN ?_ _) | (with_reducible refine Ext.stepD ?_) | (with_reducible refine Ext.stepA ?_ _)))))).mono ?_; rintro e u1 ⟨rfl, q, rfl⟩) | (go_at_call 61; refine (c_spec_l02Key_e key _ HK.out).mono ?_; rintro e w' ⟨rfl, rfl⟩) | (go_at_call 65; refine (c_l00In_e y (-1000000) 1000000 _ HY.out).mono ?_; rintro e w' ⟨rfl, rfl⟩))
        refine bodyPost_ret (v := .tuple #[.agg #[.int .i64 0, .int .i64 0, .int .i64 0, .slice none 0 0], .bool false]) (by simp [results, Try.results43, go_sem]) rfl ⟨none, 0, rfl, Own.nil _ _ _ _, ?_⟩
        (repeat (first | assumption | exact Ext.refl _ | (with_reducible refine Ext.stepS ?_ (by first | exact Nat.le_refl _ | (simp; done) | (simp; omega)) _) | (with_reducible refine Ext.stepN ?_ _) | (with_reducible refine Ext.stepD ?_) | (with_reducible refine Ext.stepA ?_ _)))
end Go.Proofs.Ytjckikcndoobnaa
