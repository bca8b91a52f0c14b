/- SignedNorm, rowDots: both sides. -/
import Derived.Test.YtedejnehiihmkaaSat

import Derived.Test.YtedejnehiihmkaaMeb
namespace Go.Proofs.Ytedejnehiihmkaa
open Go.ChangeShapes Go.WideShapes Go.ChangeAt Go.RowKit
set_option linter.unusedVariables false
/-- the product of two rows -/
def dotRow (m : Nat) (zs ys : List Int) (r : Nat) : Int := sumZ (fun i => zs[r * m + i]?.getD 0 * ys[r * m + i]?.getD 0) m
def dotsZ (m d : Nat) (zs ys : List Int) : List Int := (List.range d).map fun r => dotRow m zs ys r
theorem dotsZ_length (m d : Nat) (zs ys : List Int) : (dotsZ m d zs ys).length = d := by simp [dotsZ]
theorem dotsZ_get (m d : Nat) (zs ys : List Int) (r : Nat) (h : r < d) : (dotsZ m d zs ys)[r]?.getD 0 = dotRow m zs ys r := by simp [dotsZ, h]
theorem dotsZ_snoc (m k : Nat) (zs ys : List Int) : ints (dotsZ m (k + 1) zs ys) = ints (dotsZ m k zs ys) ++ [.int .i64 (dotRow m zs ys k)] := by simp [dotsZ, ints, List.range_succ]
theorem prod_bd {x y : Int} (h1 : -1000000 ≤ x) (h2 : x ≤ 1000000) (h3 : -1000000 ≤ y) (h4 : y ≤ 1000000) : -1000000000000 ≤ x * y ∧ x * y ≤ 1000000000000 := by
  have a1 : 0 ≤ (1000000 - x) * (1000000 - y) := Int.mul_nonneg (by omega) (by omega)
  have a2 : 0 ≤ (1000000 + x) * (1000000 + y) := Int.mul_nonneg (by omega) (by omega)
  have a3 : 0 ≤ (1000000 - x) * (1000000 + y) := Int.mul_nonneg (by omega) (by omega)
  have a4 : 0 ≤ (1000000 + x) * (1000000 - y) := Int.mul_nonneg (by omega) (by omega)
  simp only [Int.sub_mul, Int.add_mul, Int.mul_sub, Int.mul_add] at a1 a2 a3 a4
  omega
def normR (W D S : Int) (zs : List Int) : Int × Bool := if cellsB W D S zs && manyB 1000000 zs then (medZ (dotsZ W.toNat D.toNat zs zs), true) else (0, false)
theorem normR_no {W D S : Int} {zs : List Int} (h : (cellsB W D S zs && manyB 1000000 zs) = false) : normR W D S zs = (0, false) := by unfold normR; rw [h]; rfl
theorem normR_y {m d : Nat} {S : Int} {zs : List Int} (h : CellsOk m d S zs) (hm : manyB 1000000 zs = true) : normR m d S zs = (medZ (dotsZ m d zs zs), true) := by
  unfold normR
  rw [h.cellsB, hm]
  simp
theorem c_l00In_e3 (k lo hi : Int) (w : World) {b : Bool} (h : inB lo k hi = b) : Calls Try.prog 59 #[.int .i64 k, .int .i64 lo, .int .i64 hi] w fun e w' => e = .returned (.bool b) ∧ w = w' := by
  subst h; exact c_l00In k lo hi w
set_option maxHeartbeats 2000000 in
theorem c_spec_l03Small (b : Nat) (W D S : Int) (a : Option Addr) (n cap : Nat) (zs : List Int) (w : World) {r : Bool} (hr : manyB 1000000 zs = r) (hn : n ≤ 1048576)
    (hb : Box w b 28 #[.int .i64 W, .int .i64 D, .int .i64 S, .slice a n cap]) (h : Reads w a n (ints zs)) :
    Calls Try.prog 46 #[.pointer (some ⟨b, 0, none⟩)] w fun e w' => e = .returned (.bool r) ∧ w = w' := by
  obtain ⟨h0, h1, h2, h3⟩ := hb.four
  obtain ⟨hz, hrd⟩ := h.int
  have HZ := Lib.hid hz
  have HR := Lib.hid hrd
  have HB := Lib.hid hr
  clear hb hz hrd hr h
  go_enter Try.func46, Try.ntmps46
  go_wp2
  go_loop [9] (fun i => ∃ k : Nat, k ≤ n ∧ i = .int .i64 k ∧ ∀ j, j < k → inB (-1000000) (zs[j]?.getD 0) 1000000 = true) (fun i => n - (intOf i).toNat)
  case atStart => exact ⟨0, Nat.zero_le _, rfl, fun j hj => absurd hj (Nat.not_lt_zero _)⟩
  case round =>
    obtain ⟨k, hk, rfl, hall⟩ := hrel
    have HA := Lib.hid hall
    clear hall
    by_cases hlt : k < n
    · rcases HR.out with he | ⟨g, off, rfl, hc⟩
      · omega
      have hcell := hc k hlt
      obtain ⟨x, hx⟩ : ∃ x, zs[k]?.getD 0 = x := ⟨_, rfl⟩
      have HX := Lib.hid hx
      rw [hx] at hcell
      clear hc hx
      cases hin : inB (-1000000) x 1000000
      · have HI := Lib.hid hin
        clear hin
        go_wp2_with (go_at_call 59; refine (c_l00In_e3 x (-1000000) 1000000 _ HI.out).mono ?_; rintro e w' ⟨rfl, rfl⟩)
        go_ret
        exact ⟨retB (by rw [← HB.out]; exact (many_no (by rw [HZ.out]; exact hlt) HX.out HI.out).symm), rfl⟩
      · have HI := Lib.hid hin
        clear hin
        go_wp2_with (go_at_call 59; refine (c_l00In_e3 x (-1000000) 1000000 _ HI.out).mono ?_; rintro e w' ⟨rfl, rfl⟩)
        go_round
        case rel => exact ⟨k + 1, by omega, by go_num, fun j hj => by
          by_cases e : j = k
          · subst e; rw [HX.out]; exact HI.out
          · exact HA.out j (by omega)⟩
        case measure => simp [intOf]; omega
    · obtain rfl : k = n := by omega
      go_wp2
      go_ret
      exact ⟨retB (by rw [← HB.out]; exact (many_mk (by rw [HZ.out]; exact HA.out)).symm), rfl⟩
set_option maxRecDepth 100000 in
set_option maxHeartbeats 4000000 in
theorem c_spec_SignedNorm (W D S : Int) (a : Option Addr) (n cap : Nat) (zs : List Int) (w : World) {v : Int} {b : Bool} (hv : normR W D S zs = (v, b)) (hm : n ≤ maxLen) (hcap : n ≤ cap ∧ cap ≤ maxLen) (h : Reads w a n (ints zs)) :
    Calls Try.prog 14 #[.agg #[.int .i64 W, .int .i64 D, .int .i64 S, .slice a n cap]] w fun e w' => e = .returned (.tuple #[.int .i64 v, .bool b]) ∧ Ext w w' := by
  have H := Lib.hid h
  have BX := Lib.hid (Box.alloc w #[.int .i64 W, .int .i64 D, .int .i64 S, .slice a n cap] 28)
  have HM := Lib.hid hm
  clear hcap hm
  cases hc : cellsB W D S zs
  · rw [normR_no (by rw [hc]; rfl)] at hv
    simp only [Prod.mk.injEq] at hv
    obtain ⟨rfl, rfl⟩ := hv
    have HC := Lib.hid hc
    clear hc h
    go_enter Try.func14, Try.ntmps14
    go_wp2_with (go_at_call 38; refine (c_spec_l03Is _ W D S a n cap zs _ HC.out BX.out HM.out (H.out.on (by (repeat (first | assumption | exact Ext.refl _ | (with_reducible refine Ext.stepS ?_ (by first | exact Nat.le_refl _ | (simp; done) | (simp; omega)) _) | (with_reducible refine Ext.stepN ?_ _) | (with_reducible refine Ext.stepD ?_) | (with_reducible refine Ext.stepA ?_ _)))))).mono ?_; rintro e u1 ⟨rfl, q, rfl⟩)
    go_ret2
    exact ⟨rfl, by (repeat (first | assumption | exact Ext.refl _ | (with_reducible refine Ext.stepS ?_ (by first | exact Nat.le_refl _ | (simp; done) | (simp; omega)) _) | (with_reducible refine Ext.stepN ?_ _) | (with_reducible refine Ext.stepD ?_) | (with_reducible refine Ext.stepA ?_ _)))⟩
  · obtain ⟨m, d, rfl, rfl, ok⟩ := cells_ok hc
    have hz := h.int.1
    have hn4 := ok.le
    subst hz
    cases hs : manyB 1000000 zs
    · rw [normR_no (by rw [hs, Bool.and_false])] at hv
      simp only [Prod.mk.injEq] at hv
      obtain ⟨rfl, rfl⟩ := hv
      have HC := Lib.hid hc
      have HS := Lib.hid hs
      clear hc hs h ok
      go_enter Try.func14, Try.ntmps14
      go_wp2_with (first | (go_at_call 38; refine (c_spec_l03Is _ m d S a _ cap zs _ HC.out BX.out HM.out (H.out.on (by (repeat (first | assumption | exact Ext.refl _ | (with_reducible refine Ext.stepS ?_ (by first | exact Nat.le_refl _ | (simp; done) | (simp; omega)) _) | (with_reducible refine Ext.stepN ?_ _) | (with_reducible refine Ext.stepD ?_) | (with_reducible refine Ext.stepA ?_ _)))))).mono ?_; rintro e u1 ⟨rfl, q, rfl⟩) | (go_at_call 46; refine (c_spec_l03Small w.heap.size m d S a _ cap zs _ HS.out (by omega) (BX.out.on (by (repeat (first | assumption | exact Ext.refl _ | (with_reducible refine Ext.stepS ?_ (by first | exact Nat.le_refl _ | (simp; done) | (simp; omega)) _) | (with_reducible refine Ext.stepN ?_ _) | (with_reducible refine Ext.stepD ?_) | (with_reducible refine Ext.stepA ?_ _))))) (H.out.on (by (repeat (first | assumption | exact Ext.refl _ | (with_reducible refine Ext.stepS ?_ (by first | exact Nat.le_refl _ | (simp; done) | (simp; omega)) _) | (with_reducible refine Ext.stepN ?_ _) | (with_reducible refine Ext.stepD ?_) | (with_reducible refine Ext.stepA ?_ _)))))).mono ?_; rintro e w' ⟨rfl, rfl⟩))
      go_ret2
      exact ⟨rfl, by (repeat (first | assumption | exact Ext.refl _ | (with_reducible refine Ext.stepS ?_ (by first | exact Nat.le_refl _ | (simp; done) | (simp; omega)) _) | (with_reducible refine Ext.stepN ?_ _) | (with_reducible refine Ext.stepD ?_) | (with_reducible refine Ext.stepA ?_ _)))⟩
    · rw [normR_y ok hs] at hv
      simp only [Prod.mk.injEq] at hv
      obtain ⟨rfl, rfl⟩ := hv
      have hd1 := ok.d1
      have hd6 := ok.d6
      have m64 := ok.m64
      have HC := Lib.hid hc
      have HS := Lib.hid hs
      have OK := Lib.hid ok
      obtain ⟨i0, hi, hz0, hz1, hz2⟩ := info_parts info_i64
      clear hc hs h ok
      go_enter Try.func14, Try.ntmps14
      go_wp2_with (first | (go_at_call 38; refine (c_spec_l03Is _ m d S a _ cap zs _ HC.out BX.out HM.out (H.out.on (by (repeat (first | assumption | exact Ext.refl _ | (with_reducible refine Ext.stepS ?_ (by first | exact Nat.le_refl _ | (simp; done) | (simp; omega)) _) | (with_reducible refine Ext.stepN ?_ _) | (with_reducible refine Ext.stepD ?_) | (with_reducible refine Ext.stepA ?_ _)))))).mono ?_; rintro e u1 ⟨rfl, q, rfl⟩) | (go_at_call 46; refine (c_spec_l03Small w.heap.size m d S a _ cap zs _ HS.out (by omega) (BX.out.on (by (repeat (first | assumption | exact Ext.refl _ | (with_reducible refine Ext.stepS ?_ (by first | exact Nat.le_refl _ | (simp; done) | (simp; omega)) _) | (with_reducible refine Ext.stepN ?_ _) | (with_reducible refine Ext.stepD ?_) | (with_reducible refine Ext.stepA ?_ _))))) (H.out.on (by (repeat (first | assumption | exact Ext.refl _ | (with_reducible refine Ext.stepS ?_ (by first | exact Nat.le_refl _ | (simp; done) | (simp; omega)) _) | (with_reducible refine Ext.stepN ?_ _) | (with_reducible refine Ext.stepD ?_) | (with_reducible refine Ext.stepA ?_ _)))))).mono ?_; rintro e w' ⟨rfl, rfl⟩))
      go_loopw [4, 5] (fun v i wr => ∃ k : Nat, k ≤ d ∧ i = .int .i64 k ∧ wr.ownsRow (w.heap.size + 1) 2 1 v k (ints (dotsZ m k zs zs)) ∧ Ext (w.alloc (.cells #[.int .i64 m, .int .i64 d, .int .i64 S, .slice a zs.length cap] 28)) wr) (fun _ i _ => d - (intOf i).toNat)
      case atStart => exact ⟨0, Nat.zero_le _, rfl, made_at _ _ _ (by first | omega | (simp; done) | (simp; omega)) (by omega) (Nat.zero_le _) rfl, by (repeat (first | assumption | exact Ext.refl _ | (with_reducible refine Ext.stepS ?_ (by first | exact Nat.le_refl _ | (simp; done) | (simp; omega)) _) | (with_reducible refine Ext.stepN ?_ _) | (with_reducible refine Ext.stepD ?_) | (with_reducible refine Ext.stepA ?_ _)))⟩
      case round =>
        obtain ⟨k, hk, rfl, hown, hext⟩ := hrel
        have HO := Lib.hid hown
        have HE := Lib.hid hext
        have HES := Lib.hid hext.size
        have BX2 := Lib.hid (BX.out.on hext)
        obtain ⟨b0, b1, b2, b3⟩ := BX2.out.four
        clear hown hext
        by_cases hlt : k < d
        · have hrow : (k + 1) * m ≤ zs.length := by rw [OK.out.len, Nat.mul_comm m d]; exact Nat.mul_le_mul_right m hlt
          rw [Nat.add_mul, Nat.one_mul] at hrow
          obtain ⟨f, hf⟩ : ∃ f : Nat → Int, (fun i => zs[k * m + i]?.getD 0 * zs[k * m + i]?.getD 0) = f := ⟨_, rfl⟩
          have HF := Lib.hid (show ∀ i, zs[k * m + i]?.getD 0 * zs[k * m + i]?.getD 0 = f i from fun i => congrFun hf i)
          have HBD := Lib.hid (show ∀ i, i < m → -1000000000000 ≤ f i ∧ f i ≤ 1000000000000 from fun i hi => by
            rw [← HF.out]
            have h1 := manyB_at HS.out (i := k * m + i) (by omega)
            exact prod_bd h1.1 h1.2 h1.1 h1.2)
          have HDR := Lib.hid (show dotRow m zs zs k = sumZ f m by unfold dotRow; rw [hf])
          have f1 := wrap_mulN (i := k) (m := m) (by omega) m64
          have hpl : k * m ≤ 6 * 64 := Nat.mul_le_mul (by omega) m64
          obtain ⟨p, hp⟩ : ∃ p, k * m = p := ⟨_, rfl⟩
          rw [hp] at f1 hpl hrow
          have f1' : (k : Int) * (m : Int) = (p : Int) := by rw [← Int.natCast_mul, hp]
          have HP := Lib.hid hp
          clear hp hf
          go_wp2
          go_loop [6, 7] (fun s i => ∃ j : Nat, j ≤ m ∧ i = .int .i64 j ∧ s = .int .i64 (sumZ f j)) (fun _ i => m - (intOf i).toNat)
          case atStart => exact ⟨0, by omega, rfl, rfl⟩
          case round =>
            obtain ⟨j, hj, rfl, rfl⟩ := hrel
            by_cases hlj : j < m
            · obtain ⟨x, hx⟩ : ∃ x, zs[p + j]?.getD 0 = x := ⟨_, rfl⟩
              have hxb := manyB_at HS.out (i := p + j) (by omega)
              rw [hx] at hxb
              obtain ⟨ab, ao, rfl, haw⟩ : ∃ b off, a = some ⟨b, off, none⟩ ∧ w.cell? ⟨b, off + (p + j), none⟩ = some (.int .i64 x) := by
                obtain ⟨_, hq⟩ := H.out.int
                rcases hq with h0 | ⟨b', off', rfl, hq⟩
                · omega
                · exact ⟨b', off', rfl, by rw [hq (p + j) (by omega), hx]⟩
              have hac := cellOn haw ((Ext.alloc _ _).trans HE.out)
              obtain ⟨pj, hpj⟩ : ∃ q, p + j = q := ⟨_, rfl⟩
              have w2 := wrap_addN (a := p) (b := j) (by omega) (by omega)
              have w2' : (p : Int) + (j : Int) = (pj : Int) := by omega
              rw [hpj] at hac w2
              obtain ⟨pr, hpr⟩ : ∃ q, x * x = q := ⟨_, rfl⟩
              have hpb := prod_bd hxb.1 hxb.2 hxb.1 hxb.2
              rw [hpr] at hpb
              have w3 : IntKind.i64.wrap pr = pr := wrap_mid (by omega) (by omega)
              obtain ⟨y, hy⟩ : ∃ y, sumZ f j = y := ⟨_, rfl⟩
              have h2 := sumZ_bd (f := f) (B := 1000000000000) j (fun i hi => HBD.out i (by omega))
              rw [hy] at h2
              have HMM := Lib.hid (show sumZ f (j + 1) = y + pr by
                show sumZ f j + f j = _
                rw [hy, ← HF.out, HP.out, hpj, ← hpr]
                rw [hpj] at hx
                rw [hx])
              have w4 : IntKind.i64.wrap (y + pr) = y + pr := wrap_mid (by omega) (by omega)
              have w5 : IntKind.i64.wrap (x * x) = pr := by rw [hpr]; exact w3
              have g1 : (0 : Int) ≤ (pj : Int) := by omega
              have g2 : (pj : Int) < (zs.length : Int) := by omega
              have g3 : -9223372036854775808 ≤ y + pr := by omega
              have g4 : y + pr ≤ 9223372036854775807 := by omega
              rw [hy]
              clear hx hxb haw hpj hpb h2 hy
              go_wp2
              go_round
              case rel => exact ⟨j + 1, by omega, by go_num, by rw [HMM.out]⟩
              case measure => simp [intOf]; omega
            · obtain rfl : m = j := by omega
              have HT := Lib.hid (show ints (dotsZ m (k + 1) zs zs) = ints (dotsZ m k zs zs) ++ [.int .i64 (sumZ f m)] by rw [dotsZ_snoc, HDR.out])
              obtain ⟨y, hy⟩ : ∃ y, sumZ f m = y := ⟨_, rfl⟩
              rw [hy] at HT ⊢
              clear hy
              go_wp2_with (at_builtin; refine wpList_append_own _ rfl _ _ 22 rfl (w.heap.size + 1) 2 i0 (.int .i64 0) 1 8 Try.underlying22 hi hz0 hz1 hz2 rfl (by decide) _ _ _ rfl (HO.out.alloc _) ⟨_, 0, none⟩ 1 1 [.int .i64 y] rfl rfl ?d1 ?d2 ?d3 ?d4 ?d5 ?_)
              case d2 => first | rfl | (intro u hu; simp at hu; subst hu; rfl)
              case d3 => unfold maxLen; omega
              case d4 => omega
              case d5 => have := HES.out; simp at this; first | omega | (simp; omega)
              intro v' w1 hown' hgrow _
              have HO2 := Lib.hid hown'
              have HB2 := Lib.hid (show Ext (w.alloc (.cells #[.int .i64 m, .int .i64 d, .int .i64 S, .slice a zs.length cap] 28)) w1 from Below.grown (show Ext _ _ by have he := HE.out; (repeat (first | assumption | exact Ext.refl _ | (with_reducible refine Ext.stepS ?_ (by first | exact Nat.le_refl _ | (simp; done) | (simp; omega)) _) | (with_reducible refine Ext.stepN ?_ _) | (with_reducible refine Ext.stepD ?_) | (with_reducible refine Ext.stepA ?_ _)))) hgrow (by have := HES.out; simp at this; first | omega | (simp; omega)) (fun j hj => by have := (HO.out.lt j hj).1; first | omega | (simp; omega)))
              clear hown' hgrow b0 b1 b2 b3
              go_wp2
              go_roundw
              case rel => exact ⟨k + 1, by omega, by go_num, by rw [HT.out]; exact HO2.out, HB2.out⟩
              case measure => simp [intOf]; omega
        · obtain rfl : k = d := by omega
          obtain ⟨a', c', hv, ho⟩ := Own.of_row (e := 0) HO.out
          subst hv
          have HO' := Lib.hid ho
          clear ho b0 b2 b3
          go_wp2_with fail
          refine (c_spec_l03Middle _ k _ (dotsZ m k zs zs) _ hd1 (by omega) HO'.out.reads).mono ?_; rintro e wz ⟨rfl, xz⟩
          have XZ : Ext w wz := ((Ext.alloc _ _).trans HE.out).trans xz
          clear xz
          go_wp2
          go_ret2
          exact ⟨rfl, XZ⟩
end Go.Proofs.Ytedejnehiihmkaa
