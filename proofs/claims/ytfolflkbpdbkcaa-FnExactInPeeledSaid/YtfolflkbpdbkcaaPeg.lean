/- InPeeled: the other side. -/
import Derived.Test.YtfolflkbpdbkcaaPef
namespace Go.Proofs.Ytfolflkbpdbkcaa
open Go.ChangeShapes Go.WideShapes Go.ChangeAt Go.RowKit
set_option linter.unusedVariables false
theorem c_spec_l04Three (m : Nat) (S key : Int) (y : Nat) (w : World) (hs : keyB S = true) (hk : keyB key = true) (hm : m ≤ 128) (hm1 : 1 ≤ m) (hy : belowN key (saltZ S 3) 255 + 1 = y) :
    Calls Try.prog 76 #[.int .i64 key, .int .i64 S, .int .i64 m] w fun e w' => ∃ a c, e = .returned (.tuple #[.slice a 3 c, .int .i64 (y : Nat)]) ∧ Own 2 w' w.heap.size w'.heap.size a 3 c (ints (placesZ m 3 S key)) ∧ Ext w w' := by
  obtain ⟨zz, hzz⟩ : ∃ z, saltZ S 3 = z := ⟨_, rfl⟩
  have HZ3 := Lib.hid hzz
  have HZK3 := Lib.hid (show keyB zz = true by rw [← hzz]; exact saltZ_key S 3)
  obtain ⟨bb, hbb⟩ : ∃ b, belowN key zz 255 = b := ⟨_, rfl⟩
  have HB3 := Lib.hid hbb
  have hbl := belowN_lt key zz 255 (by decide)
  rw [hbb] at hbl
  rw [hzz, hbb] at hy
  subst hy
  have HS := Lib.hid hs
  have HK := Lib.hid hk
  obtain ⟨i0, hi, hz0, hz1, hz2⟩ := info_parts info_i64
  clear hs hk hzz hbb
  go_enter Try.func76, Try.ntmps76
  go_wp2
  go_loopw [8, 9] (fun v i wr => ∃ k : Nat, k ≤ 3 ∧ i = .int .i64 k ∧ wr.ownsRow w.heap.size 2 1 v k (ints (placesZ m k S key)) ∧ Ext w wr) (fun _ i _ => 3 - (intOf i).toNat)
  case atStart => exact ⟨0, Nat.zero_le _, rfl, World.ownsRow_made _ _ _ (Nat.le_refl _) (Nat.zero_le _) rfl, Ext.alloc _ _⟩
  case round =>
    obtain ⟨k, hk, rfl, hown, hext⟩ := hrel
    have HO := Lib.hid hown
    have HE := Lib.hid hext
    by_cases hlt : k < 3
    · obtain ⟨z, hz⟩ : ∃ z, saltZ S k = z := ⟨_, rfl⟩
      obtain ⟨y, hy⟩ : ∃ y, belowN key z m = y := ⟨_, rfl⟩
      have HZ := Lib.hid hz
      have HY := Lib.hid hy
      have HZK := Lib.hid (show keyB z = true by rw [← hz]; exact saltZ_key S k)
      obtain ⟨c, hc⟩ : ∃ c, k * m = c := ⟨_, rfl⟩
      have hcb : c ≤ 256 := by rw [← hc]; have h2 := Nat.mul_le_mul (show k ≤ 2 by omega) hm; omega
      have hci : (k : Int) * (m : Int) = (c : Int) := by rw [← hc]; exact (Int.natCast_mul k m).symm
      have hyl : y < m := by rw [← hy]; exact belowN_lt key z m hm1
      have HP := Lib.hid (show placeN m S key k = c + y by unfold placeN; rw [hz, hy, hc])
      have HT := Lib.hid (placesZ_snoc m k S key)
      clear hown hext hz hy hc
      go_wp2_with fail
      refine (c_spec_l04Salt_e S k z _ HS.out (by omega) HZ.out).mono ?_; rintro e w' ⟨rfl, rfl⟩
      go_wp2_with fail
      refine (c_spec_l02Below_e key z m y _ HK.out HZK.out (by omega) HY.out).mono ?_; rintro e w' ⟨rfl, rfl⟩
      go_wp2_with (at_builtin; refine wpList_append_own _ rfl _ _ 40 rfl w.heap.size 2 i0 (.int .i64 0) 1 8 Try.underlying40 hi hz0 hz1 hz2 rfl (by decide) _ _ _ rfl (HO.out.alloc _) ⟨_, 0, none⟩ 1 1 [.int .i64 ((c : Int) + (y : Int))] rfl rfl ?c1 ?c2 ?c3 ?c4 ?c5 ?_)
      case c1 => exact one_cell_at _ _ _
      case c2 => intro u hu; simp at hu; subst hu; rfl
      case c3 => unfold maxLen; omega
      case c4 => omega
      case c5 => have := HE.out.size; simp; omega
      intro v' w1 hown' hgrow _
      have HO' := Lib.hid hown'
      have HE' := Lib.hid (app_step HE.out HO.out hgrow)
      clear hown' hgrow
      go_wp2
      go_roundw
      case rel => exact ⟨k + 1, by omega, by go_num, by rw [HT.out, HP.out, Int.natCast_add]; exact HO'.out, HE'.out⟩
      case measure => simp [intOf]; omega
    · obtain rfl : k = 3 := by omega
      obtain ⟨a', c', hv, ho⟩ := Own.of_row (e := 0) HO.out
      subst hv
      have HO' := Lib.hid ho
      clear ho hown hext
      go_wp2_with fail
      refine (c_spec_l04Salt_e S 3 zz _ HS.out (by omega) HZ3.out).mono ?_; rintro e w' ⟨rfl, rfl⟩
      go_wp2_with fail
      refine (c_spec_l02Below_e key zz 255 bb _ HK.out HZK3.out (by omega) HB3.out).mono ?_; rintro e w' ⟨rfl, rfl⟩
      go_wp2
      go_ret2
      exact ⟨_, _, by first | rfl | (congr 1; simp), HO'.out, HE.out⟩
set_option maxRecDepth 100000 in
set_option maxHeartbeats 4000000 in
theorem c_spec_InPeeled (a : Option Addr) (n cap : Nat) (zs : List Int) (key S : Int) (w : World) {v b : Bool} (hv : inPeelR zs key S = (v, b)) (hm : n ≤ maxLen) (h : Reads w a n (ints zs)) :
    Calls Try.prog 46 #[.slice a n cap, .int .i64 key, .int .i64 S] w fun e w' => e = .returned (.tuple #[.bool v, .bool b]) ∧ Ext w w' := by
  have hn := h.int.1
  subst hn
  have H := Lib.hid h
  unfold maxLen at hm
  clear h
  by_cases h1 : zs.length < 3
  · rw [inPeelR_1 (show peelB zs = false by unfold peelB; rw [decide_eq_false (by omega)]; rfl)] at hv
    simp only [Prod.mk.injEq] at hv
    obtain ⟨rfl, rfl⟩ := hv
    have h1' : (zs.length : Int) < 3 := by omega
    clear h1
    go_enter Try.func46, Try.ntmps46
    go_wp2
    go_ret2
    exact ⟨rfl, Ext.refl _⟩
  by_cases h2 : 384 < zs.length
  · rw [inPeelR_1 (show peelB zs = false by unfold peelB; rw [decide_eq_false (by omega)]; rfl)] at hv
    simp only [Prod.mk.injEq] at hv
    obtain ⟨rfl, rfl⟩ := hv
    have h1' : (3 : Int) ≤ (zs.length : Int) := by omega
    have h2' : (384 : Int) < (zs.length : Int) := by omega
    clear h1 h2
    go_enter Try.func46, Try.ntmps46
    go_wp2
    go_ret2
    exact ⟨rfl, Ext.refl _⟩
  have h1' : (3 : Int) ≤ (zs.length : Int) := by omega
  have h2' : (zs.length : Int) ≤ 384 := by omega
  by_cases h3 : zs.length % 3 = 0
  rotate_left
  · rw [inPeelR_1 (show peelB zs = false by unfold peelB; rw [decide_eq_false (by omega)]; rfl)] at hv
    simp only [Prod.mk.injEq] at hv
    obtain ⟨rfl, rfl⟩ := hv
    have h3' : ¬ (zs.length : Int) % 3 = 0 := by omega
    have h4' : ((zs.length : Int) % 3 == 0) = false := by simpa using h3'
    have h5' : ((zs.length : Int) % 3 != 0) = true := by simpa using h3'
    clear h1 h2 h3
    go_enter Try.func46, Try.ntmps46
    go_wp2
    go_ret2
    exact ⟨rfl, Ext.refl _⟩
  have h3' : (zs.length : Int) % 3 = 0 := by omega
  cases hk : keyB key
  · rw [inPeelR_2 hk] at hv
    simp only [Prod.mk.injEq] at hv
    obtain ⟨rfl, rfl⟩ := hv
    have HK := Lib.hid hk
    clear h1 h2 h3 hk
    go_enter Try.func46, Try.ntmps46
    go_wp2_with (go_at_call 57; refine (c_spec_l02Key_q key _ HK.out).mono ?_; rintro e w' ⟨rfl, rfl⟩)
    go_ret2
    exact ⟨rfl, Ext.refl _⟩
  cases hs : keyB S
  · rw [inPeelR_3 hs] at hv
    simp only [Prod.mk.injEq] at hv
    obtain ⟨rfl, rfl⟩ := hv
    have HK := Lib.hid hk
    have HS := Lib.hid hs
    clear h1 h2 h3 hk hs
    go_enter Try.func46, Try.ntmps46
    go_wp2_with fail
    refine (c_spec_l02Key_q key _ HK.out).mono ?_; rintro e w' ⟨rfl, rfl⟩
    go_wp2_with fail
    refine (c_spec_l02Key_q S _ HS.out).mono ?_; rintro e w' ⟨rfl, rfl⟩
    go_wp2
    go_ret2
    exact ⟨rfl, Ext.refl _⟩
  obtain ⟨m, hl⟩ : ∃ m, zs.length = 3 * m := ⟨zs.length / 3, by omega⟩
  have hd : (zs.length : Int) / 3 = (m : Int) := by omega
  have hm1 : 1 ≤ m := by omega
  have hm2 : m ≤ 128 := by omega
  have hwm : IntKind.i64.wrap (m : Int) = (m : Int) := by simp [IntKind.wrap, IntKind.bits, IntKind.signed]; omega
  have hm0 : (0 : Int) ≤ (m : Int) := by omega
  have hm3 : (m : Int) ≤ 128 := by omega
  have HV := Lib.hid hv
  have HK := Lib.hid hk
  have HS := Lib.hid hs
  have HL := Lib.hid hl
  have HPB := Lib.hid (show peelB zs = upB 255 zs by unfold peelB; rw [decide_eq_true ⟨by omega, by omega, h3⟩]; rfl)
  clear hv hk hs hl h1 h2 h3
  go_enter Try.func46, Try.ntmps46
  go_wp2_with fail
  refine (c_spec_l02Key_q key _ HK.out).mono ?_; rintro e w' ⟨rfl, rfl⟩
  go_wp2_with fail
  refine (c_spec_l02Key_q S _ HS.out).mono ?_; rintro e w' ⟨rfl, rfl⟩
  go_wp2_with fail
  go_loop [9] (fun i => ∃ k : Nat, k ≤ zs.length ∧ i = .int .i64 k ∧ ∀ j, j < k → inB 0 (zs[j]?.getD 0) 255 = true) (fun i => zs.length - (intOf i).toNat)
  case atStart => exact ⟨0, Nat.zero_le _, rfl, fun j hj => absurd hj (Nat.not_lt_zero _)⟩
  case round =>
    obtain ⟨k, hk, rfl, hall⟩ := hrel
    have HA := Lib.hid hall
    clear hall
    by_cases hlt : k < zs.length
    · obtain ⟨ab, ao, rfl, hac⟩ : ∃ b off, a = some ⟨b, off, none⟩ ∧ w.cell? ⟨b, off + k, none⟩ = some (.int .i64 (zs[k]?.getD 0)) := by
        obtain ⟨_, hq⟩ := H.out.int
        rcases hq with h0 | ⟨b', off', rfl, hq⟩
        · omega
        · exact ⟨b', off', rfl, hq k hlt⟩
      obtain ⟨x, hx⟩ : ∃ x, zs[k]?.getD 0 = x := ⟨_, rfl⟩
      have HX := Lib.hid hx
      rw [hx] at hac
      have hkl : (k : Int) < (zs.length : Int) := by omega
      have hk0 : (0 : Int) ≤ (k : Int) := by omega
      clear hx
      cases hin : inB 0 x 255
      · have HI := Lib.hid hin
        have hv := HV.out
        rw [inPeelR_1 (by rw [HPB.out]; exact upB_no hlt HX.out HI.out)] at hv
        simp only [Prod.mk.injEq] at hv
        obtain ⟨rfl, rfl⟩ := hv
        clear hin
        go_wp2_with (go_at_call 56; refine (c_l00In_e x 0 255 _ HI.out).mono ?_; rintro e w' ⟨rfl, rfl⟩)
        go_ret2
        exact ⟨rfl, Ext.refl _⟩
      · have HI := Lib.hid hin
        clear hin
        go_wp2_with (go_at_call 56; refine (c_l00In_e x 0 255 _ HI.out).mono ?_; rintro e w' ⟨rfl, rfl⟩)
        go_round
        case rel => exact ⟨k + 1, by omega, by go_num, fun j hj => by
          by_cases e : j = k
          · subst e; rw [HX.out]; exact HI.out
          · exact HA.out j (by omega)⟩
        case measure => simp [intOf]; omega
    · obtain rfl : k = zs.length := by omega
      have hu : upB 255 zs = true := upB_mk HA.out
      obtain ⟨t, ht⟩ : ∃ t, toldN zs m S key = t := ⟨_, rfl⟩
      obtain ⟨y, hy⟩ : ∃ y, belowN key (saltZ S 3) 255 + 1 = y := ⟨_, rfl⟩
      have hv := HV.out
      rw [inPeelR_y (by rw [HPB.out]; exact hu) HK.out HS.out HL.out ht hy] at hv
      simp only [Prod.mk.injEq] at hv
      obtain ⟨hv, rfl⟩ := hv
      have HVV := Lib.hid hv
      have HT := Lib.hid ht
      have HY := Lib.hid hy
      have HU := Lib.hid hu
      clear hv hu ht hy
      go_wp2_with fail
      refine (c_spec_l04Three m S key y _ HS.out HK.out hm2 hm1 HY.out).mono ?_; rintro e u1 ⟨pa, pc, rfl, ho, x1⟩
      obtain ⟨g, f2, rfl, hg, hg2, hpl, hpc, hrow⟩ := ho.rowT (by decide)
      have r0 := hrow.cell (i := 0) (by omega)
      have r1 := hrow.cell (i := 1) (by omega)
      have r2 := hrow.cell (i := 2) (by omega)
      rw [rowT_at (by rw [placesZ_length]; decide), placesZ_get _ _ _ _ _ (by decide)] at r0 r1 r2
      obtain ⟨p0, q0⟩ : ∃ p, placeN m S key 0 = p := ⟨_, rfl⟩
      obtain ⟨p1, q1⟩ : ∃ p, placeN m S key 1 = p := ⟨_, rfl⟩
      obtain ⟨p2, q2⟩ : ∃ p, placeN m S key 2 = p := ⟨_, rfl⟩
      have hl2 := HL.out
      have g0 : p0 < zs.length := by rw [hl2, ← q0]; exact place3_lt S key hm1 (by decide)
      have g1 : p1 < zs.length := by rw [hl2, ← q1]; exact place3_lt S key hm1 (by decide)
      have g2 : p2 < zs.length := by rw [hl2, ← q2]; exact place3_lt S key hm1 (by decide)
      obtain ⟨e0, l0⟩ := cellN_eq HU.out g0
      obtain ⟨e1, l1⟩ := cellN_eq HU.out g1
      obtain ⟨e2, l2⟩ := cellN_eq HU.out g2
      have ht2 : cellN zs p0 ^^^ cellN zs p1 ^^^ cellN zs p2 = t := by rw [← HT.out, ← q0, ← q1, ← q2]; rfl
      obtain ⟨c0, hc0⟩ : ∃ c, cellN zs p0 = c := ⟨_, rfl⟩
      obtain ⟨c1, hc1⟩ : ∃ c, cellN zs p1 = c := ⟨_, rfl⟩
      obtain ⟨c2, hc2⟩ : ∃ c, cellN zs p2 = c := ⟨_, rfl⟩
      rw [hc0] at e0 l0 ht2
      rw [hc1] at e1 l1 ht2
      rw [hc2] at e2 l2 ht2
      have X1 := Lib.hid (i64_xor_nat c0 c1 (by omega) (by omega))
      have X2 := Lib.hid (i64_xor_nat (c0 ^^^ c1) c2 (by have := xor_small l0 l1; omega) (by omega))
      have HT2 := Lib.hid ht2
      rw [q0] at r0
      rw [q1] at r1
      rw [q2] at r2
      obtain ⟨ab, ao, rfl, hac⟩ : ∃ b off, a = some ⟨b, off, none⟩ ∧ ∀ i, i < zs.length → u1.cell? ⟨b, off + i, none⟩ = some (.int .i64 (zs[i]?.getD 0)) := by
        rcases (H.out.on x1).int.2 with h3 | ⟨b', off', rfl, hq⟩
        · omega
        · exact ⟨b', off', rfl, hq⟩
      have k0 := hac p0 g0
      have k1 := hac p1 g1
      have k2 := hac p2 g2
      rw [e0] at k0
      rw [e1] at k1
      rw [e2] at k2
      have hl0 : (p0 : Int) < (zs.length : Int) := by omega
      have hl1 : (p1 : Int) < (zs.length : Int) := by omega
      have hl3 : (p2 : Int) < (zs.length : Int) := by omega
      have HX := Lib.hid x1
      have HQ := Lib.hid (show ((t : Int) == (y : Int)) = v by rw [← HVV.out]; by_cases e : t = y <;> simp [e] <;> omega)
      clear hrow hg hg2 hpl hpc ho x1 hac e0 e1 e2 hc0 hc1 hc2 q0 q1 q2 ht2 hl2 g0 g1 g2 h3'
      go_wp2_with fail
      go_quiet (fail)
      go_wp2
      go_ret2
      exact ⟨by first | (rw [← HQ.out, ← HT2.out, ← X2.out, ← X1.out]; rfl) | (rw [← HQ.out]; simp), by have := HX.out; (repeat (first | assumption | exact Ext.refl _ | (with_reducible refine Ext.stepS ?_ (by first | exact Nat.le_refl _ | (simp; done) | (simp; omega)) _) | (with_reducible refine Ext.stepN ?_ _) | (with_reducible refine Ext.stepD ?_) | (with_reducible refine Ext.stepA ?_ _)))⟩
end Go.Proofs.Ytfolflkbpdbkcaa
