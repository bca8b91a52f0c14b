/- The cells of a key: the program's side. -/
import Derived.Test.YtfolflkbpdbkcabFig
namespace Go.Proofs.Ytfolflkbpdbkcab
open Go.ChangeShapes Go.WideShapes Go.ChangeAt Go.RowKit
set_option linter.unusedVariables false
def houses (p : Nat → Nat) (n : Nat) : List Int := (List.range n).map fun j => ((p j : Nat) : Int)
theorem houses_get (p : Nat → Nat) (n j : Nat) (h : j < n) : (houses p n)[j]?.getD 0 = ((p j : Nat) : Int) := by simp [houses, h]
theorem c_impl_fingerOf (S : Int) (a : Option Addr) (n cap m : Nat) (key : Int) (f h o : Nat) (w : World) (hn : n = 2 * m) (hm : m ≤ 128) (hm1 : 1 ≤ m) (hs : keyB S = true) (hk : keyB key = true) (hf : fingN key S = f) (hh : houseN key S m = h) (ho : otherN (f : Nat) S m h = o) :
    Calls Try.prog 78 #[.agg #[.int .i64 S, .slice a n cap], .int .i64 key] w fun e w' => e = .returned (.tuple #[.int .i64 (f : Nat), .int .i64 (h : Nat), .int .i64 (o : Nat)]) ∧ Ext w w' := by
  have BX := Lib.hid (Box.alloc w #[.int .i64 S, .slice a n cap] 41)
  obtain ⟨b0, hb0⟩ : ∃ b, belowN key S 255 = b := ⟨_, rfl⟩
  have HB0 := Lib.hid hb0
  have hf1 : f = b0 + 1 := by rw [← hf, ← hb0]; rfl
  have hfb := fingN_bd key S
  rw [hf] at hfb
  obtain ⟨s1, hs1⟩ : ∃ s, saltZ S 1 = s := ⟨_, rfl⟩
  have HS1 := Lib.hid hs1
  have HK1 := Lib.hid (show keyB s1 = true by rw [← hs1]; exact saltZ_key S 1)
  have HH := Lib.hid (show belowN key s1 m = h by rw [← hh, ← hs1]; rfl)
  have hhm : h < m := by rw [← hh]; exact belowN_lt key _ m hm1
  have HKF := Lib.hid (show keyB (f : Nat) = true from keyB_true (by omega) (by omega))
  have HO := Lib.hid ho
  have HS := Lib.hid hs
  have HK := Lib.hid hk
  have HN := Lib.hid hn
  clear hb0 hs1 hf hh ho hs hk hn
  subst hf1
  go_enter Try.func78, Try.ntmps78
  go_wp2_with fail
  refine (c_impl_hashBelow_e key S 255 b0 _ HK.out HS.out (by decide) HB0.out).mono ?_; rintro e w' ⟨rfl, rfl⟩
  go_upto_region 2 with fail
  go_cut [5] (fun s5 wx => s5 = .int .i64 (h : Nat) ∧ Ext (w.alloc (.cells #[.int .i64 S, .slice a n cap] 41)) wx)
  case first =>
    go_region_held3 (fun w' => w'.cell? ⟨w.heap.size, 0, none⟩ = some (.int .i64 S) ∧ w'.cell? ⟨w.heap.size, 1, none⟩ = some (.slice a n cap)) (first | exact KA | go_keep)
      (first | (go_at_call 98; refine (c_impl_housesOf S a n cap m _ HN.out hm).mono ?_; rintro e u1 ⟨rfl, x1⟩; have EA : Ext (w.alloc (.cells #[.int .i64 S, .slice a n cap] 41)) u1 := Ext.trans (by (repeat (first | assumption | exact Ext.refl _ | (with_reducible refine Ext.stepS ?_ (by first | exact Nat.le_refl _ | (simp; done) | (simp; omega)) _) | (with_reducible refine Ext.stepN ?_ _) | (with_reducible refine Ext.stepD ?_) | (with_reducible refine Ext.stepA ?_ _)))) x1; have KA := (BX.out.on EA).two; clear x1) | (go_at_call 92; refine (c_impl_saltAfter_e S 1 s1 _ HS.out (by decide) HS1.out).mono ?_; rintro e w' ⟨rfl, rfl⟩) | (go_at_call 89; refine (c_impl_hashBelow_e key s1 m h _ HK.out HK1.out (by omega) HH.out).mono ?_; rintro e w' ⟨rfl, rfl⟩))
    all_goals
      go_wp2_with fail
      go_meet
      exact ⟨rfl, EA⟩
  case rest =>
    obtain ⟨rfl, x1⟩ := hcut
    have XW := Lib.hid (show Ext w wc from Ext.trans (by (repeat (first | assumption | exact Ext.refl _ | (with_reducible refine Ext.stepS ?_ (by first | exact Nat.le_refl _ | (simp; done) | (simp; omega)) _) | (with_reducible refine Ext.stepN ?_ _) | (with_reducible refine Ext.stepD ?_) | (with_reducible refine Ext.stepA ?_ _)))) x1)
    obtain ⟨a0, a1⟩ := (BX.out.on x1).two
    clear x1
    go_wp2_with fail
    refine (c_impl_otherHouse S a n cap m _ h o _ HN.out hm HS.out HKF.out (by omega) HO.out).mono ?_; rintro e u1 ⟨rfl, x1⟩
    have X := Lib.hid (XW.out.trans x1)
    clear x1 a0 a1
    go_wp2
    go_ret3
    exact ⟨rfl, X.out⟩
theorem c_impl_cellWith (S : Int) (a : Option Addr) (n cap : Nat) (zs : List Int) (x : Int) (ha : Option Addr) (hn hc : Nat) (p : Nat → Nat) (w : World) {r : Option Nat} (hr : firstC zs x (houseC p) (2 * hn) 0 = r) (hn2 : hn ≤ 2) (hp : ∀ j, j < hn → 2 * p j + 1 < n) (hm : n ≤ 256) (h : Reads w a n (ints zs)) (hh : Reads w ha hn (ints (houses p hn))) :
    Calls Try.prog 79 #[.agg #[.int .i64 S, .slice a n cap], .int .i64 x, .slice ha hn hc] w fun e w' => e = .returned (.tuple #[.int .i64 (optI 0 r), .bool r.isSome]) ∧ Ext w w' := by
  have BX := Lib.hid (Box.alloc w #[.int .i64 S, .slice a n cap] 41)
  have H := Lib.hid h
  have HH := Lib.hid hh
  have HR := Lib.hid hr
  have HP := Lib.hid hp
  have hzl := h.int.1
  have X1 := Lib.hid (Ext.alloc w (.cells #[.int .i64 S, .slice a n cap] 41))
  obtain ⟨b0, b1⟩ := BX.out.two
  obtain ⟨w1, hw1⟩ : ∃ w1, w.alloc (.cells #[.int .i64 S, .slice a n cap] 41) = w1 := ⟨_, rfl⟩
  rw [hw1] at X1 b0 b1
  clear h hh hr hp BX
  go_enter Try.func79, Try.ntmps79
  go_wp2_with fail
  try rw [hw1]
  clear hw1
  go_loopw [14] (fun i wr => ∃ j q : Nat, j ≤ hn ∧ i = .int .i64 j ∧ wr = w1.drewN q ∧ ∀ k, k < 2 * j → zs[houseC p k]?.getD 0 ≠ x) (fun i _ => hn - (intOf i).toNat)
  case atStart => exact ⟨0, 0, Nat.zero_le _, rfl, rfl, fun k hk => absurd hk (Nat.not_lt_zero _)⟩
  case round =>
    obtain ⟨j, q, hj, rfl, rfl, hall⟩ := hrel
    have HA := Lib.hid hall
    clear hall
    by_cases hlt : j < hn
    · obtain ⟨hb, ho, rfl, hhc⟩ : ∃ b off, ha = some ⟨b, off, none⟩ ∧ (w1.drewN q).cell? ⟨b, off + j, none⟩ = some (.int .i64 ((p j : Nat) : Int)) := by
        obtain ⟨_, hq⟩ := (HH.out.on (X1.out.stepN q)).int
        rcases hq with h0 | ⟨b', off', rfl, hq⟩
        · omega
        · exact ⟨b', off', rfl, by rw [hq j hlt, houses_get p hn j hlt]⟩
      obtain ⟨pj, hpj⟩ : ∃ y, p j = y := ⟨_, rfl⟩
      have hpl := HP.out j hlt
      have HPJ := Lib.hid hpj
      rw [hpj] at hhc hpl
      clear hpj
      go_wp2_with fail
      go_loopw [18] (fun i wr => ∃ s q : Nat, s ≤ 2 ∧ i = .int .i64 s ∧ wr = w1.drewN q ∧ ∀ k, k < 2 * j + s → zs[houseC p k]?.getD 0 ≠ x) (fun i _ => 2 - (intOf i).toNat)
      case atStart => exact ⟨0, q, by omega, rfl, rfl, HA.out⟩
      case round =>
        obtain ⟨s, q, hs, rfl, rfl, hall⟩ := hrel
        have HA2 := Lib.hid hall
        clear hall
        by_cases hlt2 : s < 2
        · obtain ⟨c, hc⟩ : ∃ c, 2 * pj + s = c := ⟨_, rfl⟩
          have HC := Lib.hid (show houseC p (2 * j + s) = c by unfold houseC; rw [show (2 * j + s) / 2 = j by omega, show (2 * j + s) % 2 = s by omega, HPJ.out]; exact hc)
          have hcn : c < n := by omega
          obtain ⟨ab, ao, rfl, hac⟩ : ∃ b off, a = some ⟨b, off, none⟩ ∧ (w1.drewN q).cell? ⟨b, off + c, none⟩ = some (.int .i64 (zs[c]?.getD 0)) := by
            obtain ⟨_, hq⟩ := (H.out.on (X1.out.stepN q)).int
            rcases hq with h0 | ⟨b', off', rfl, hq⟩
            · omega
            · exact ⟨b', off', rfl, hq c hcn⟩
          obtain ⟨y, hy⟩ : ∃ y, zs[c]?.getD 0 = y := ⟨_, rfl⟩
          have HY := Lib.hid hy
          rw [hy] at hac
          have hci : 2 * (pj : Int) + (s : Int) = (c : Int) := by omega
          have hcl : (c : Int) < (n : Int) := by omega
          have hc0 : (0 : Int) ≤ (c : Int) := by omega
          clear hy hc hhc
          by_cases hxy : y = x
          · have HN := Lib.hid (show r = some c by rw [← HR.out]; have q := firstC_some (zs := zs) (x := x) (c := houseC p) (2 * hn) 0 (2 * j + s) (Nat.zero_le _) (by omega) (fun i _ hi => HA2.out i hi) (by rw [HC.out, HY.out]; exact hxy); rw [HC.out] at q; exact q)
            subst hxy
            go_wp2
            go_ret2
            exact ⟨by rw [HN.out]; rfl, X1.out.stepN _⟩
          · have hd : (y == x) = false := by simpa using hxy
            have HYX := Lib.hid hxy
            go_wp2
            go_roundw
            case rel => exact ⟨s + 1, q, by omega, by go_num, rfl, fun k hk => by
              by_cases e : k = 2 * j + s
              · subst e; rw [HC.out, HY.out]; exact HYX.out
              · exact HA2.out k (by omega)⟩
            case measure => simp [intOf]; omega
        · obtain rfl : s = 2 := by omega
          go_wp2
          go_roundw
          case rel => exact ⟨j + 1, q, by omega, by go_num, rfl, fun k hk => HA2.out k (by omega)⟩
          case measure => simp [intOf]; omega
    · obtain rfl : j = hn := by omega
      have HN := Lib.hid (show r = none by rw [← HR.out]; exact firstC_none _ _ (fun i _ hi => HA.out i (by omega)))
      go_wp2
      go_ret2
      exact ⟨by rw [HN.out]; rfl, X1.out.stepN _⟩
theorem reads_two (w : World) (x y : Int) {g : Nat} (h : g = w.heap.size) {t : TypeId} : Reads (w.alloc (.cells #[.int .i64 x, .int .i64 y] t)) (some ⟨g, 0, none⟩) 2 (ints [x, y]) := by
  subst h
  refine ⟨rfl, .inr ⟨_, _, rfl, fun i hi => ?_⟩⟩
  have h2 := Box.alloc w #[.int .i64 x, .int .i64 y] t
  match i, hi with
  | 0, _ => exact h2.cell 0
  | 1, _ => exact h2.cell 1
theorem c_impl_cellOfKey (S : Int) (a : Option Addr) (n cap m : Nat) (zs : List Int) (key : Int) (w : World) {r : Option Nat} (hr : spotO S zs key m = r) (hok : FgOk S zs m) (hk : keyB key = true) (h : Reads w a n (ints zs)) :
    Calls Try.prog 81 #[.agg #[.int .i64 S, .slice a n cap], .int .i64 key] w fun e w' => e = .returned (.tuple #[.int .i64 (optI 0 r), .bool r.isSome]) ∧ Ext w w' := by
  have H := Lib.hid h
  obtain ⟨f, hf⟩ : ∃ f, fingN key S = f := ⟨_, rfl⟩
  obtain ⟨hs, hhs⟩ : ∃ h, houseN key S m = h := ⟨_, rfl⟩
  obtain ⟨o, ho⟩ : ∃ o, otherN (f : Nat) S m hs = o := ⟨_, rfl⟩
  have HF := Lib.hid hf
  have HHS := Lib.hid hhs
  have HO := Lib.hid ho
  have HR := Lib.hid (show firstC zs (f : Nat) (houseC (two hs o)) (2 * 2) 0 = r by rw [← hr, ← ho, ← hhs, ← hf]; rfl)
  have HK := Lib.hid hk
  have HOK := Lib.hid hok
  have hlm : hs < m := by rw [← hhs]; exact belowN_lt key _ m hok.m1
  have holm : o < m := by rw [← ho]; exact otherN_lt hok.pow hlm
  have hzl := h.int.1
  have hl := hok.len
  have hm8 := hok.m128
  clear hf hhs ho hr hk hok h
  have BX := Lib.hid (Box.alloc w #[.int .i64 S, .slice a n cap] 41)
  go_enter Try.func81, Try.ntmps81
  go_wp2_with fail
  refine (c_impl_fingerOf S a n cap m key f hs o _ (by omega) hm8 HOK.out.m1 HOK.out.key HK.out HF.out HHS.out HO.out).mono ?_; rintro e u1 ⟨rfl, x1⟩
  obtain ⟨a0, a1⟩ := (BX.out.on x1).two
  have X1 := Lib.hid (show Ext w u1 from Ext.trans (by (repeat (first | assumption | exact Ext.refl _ | (with_reducible refine Ext.stepS ?_ (by first | exact Nat.le_refl _ | (simp; done) | (simp; omega)) _) | (with_reducible refine Ext.stepN ?_ _) | (with_reducible refine Ext.stepD ?_) | (with_reducible refine Ext.stepA ?_ _)))) x1)
  clear x1
  go_wp2_with fail
  refine (c_impl_cellWith S a n cap zs (f : Nat) (some ⟨u1.heap.size, 0, none⟩) 2 _ (two hs o) _ HR.out (Nat.le_refl _) (fun j hj => by unfold two; split <;> omega) (by omega) (H.out.on (by have := X1.out; (repeat (first | assumption | exact Ext.refl _ | (with_reducible refine Ext.stepS ?_ (by first | exact Nat.le_refl _ | (simp; done) | (simp; omega)) _) | (with_reducible refine Ext.stepN ?_ _) | (with_reducible refine Ext.stepD ?_) | (with_reducible refine Ext.stepA ?_ _))))) (reads_two u1 _ _ rfl)).mono ?_; rintro e u2 ⟨rfl, x1⟩
  have X2 : Ext w u2 := (X1.out.stepA _).trans x1
  clear x1
  go_wp2
  go_ret2
  exact ⟨rfl, X2⟩
end Go.Proofs.Ytfolflkbpdbkcab
