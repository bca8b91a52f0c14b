/- The cells of a key: the other side. -/
import Derived.Test.YtfolflkbpdbkcabFig
namespace Go.Proofs.Ytfolflkbpdbkcab
open Go.ChangeShapes Go.WideShapes Go.ChangeAt Go.RowKit
set_option linter.unusedVariables false
theorem c_spec_l02Below_w (key salt : Int) (n y : Nat) (w : World) (hk : keyB key = true) (hs : keyB salt = true) (hn : n ≤ 4294967296) (hy : belowN key salt n = y) : Calls Try.prog 84 #[.int .i64 key, .int .i64 salt, .int .i64 n] w fun e w' => e = .returned (.int .i64 (y : Nat)) ∧ w' = w :=
  (c_spec_l02Below_e key salt n y w hk hs hn hy).mono (by rintro e w' ⟨rfl, rfl⟩; exact ⟨rfl, rfl⟩)
theorem c_spec_l04Other (b : Nat) (S : Int) (a : Option Addr) (n cap m : Nat) (x : Int) (h y : Nat) (w : World) (hn : n = 2 * m) (hm : m ≤ 128) (hs : keyB S = true) (hx : keyB x = true) (hh : h < 4294967296) (hy : otherN x S m h = y) (hb : Box w b 41 #[.int .i64 S, .slice a n cap]) :
    Calls Try.prog 76 #[.pointer (some ⟨b, 0, none⟩), .int .i64 x, .int .i64 h] w fun e w' => e = .returned (.int .i64 (y : Nat)) ∧ ∃ q, w' = w.drewN q := by
  obtain ⟨b0, b1⟩ := hb.two
  obtain ⟨s2, hs2⟩ : ∃ s, saltZ S 2 = s := ⟨_, rfl⟩
  have HS2 := Lib.hid hs2
  have HK2 := Lib.hid (show keyB s2 = true by rw [← hs2]; exact saltZ_key S 2)
  obtain ⟨bb, hbb⟩ : ∃ b, belowN x s2 m = b := ⟨_, rfl⟩
  have HB := Lib.hid hbb
  have hbl : bb < 4294967296 := by
    by_cases h1 : 1 ≤ m
    · have := belowN_lt x s2 m h1; omega
    · have h0 : m = 0 := by omega
      rw [← hbb, h0]; unfold belowN; rw [Nat.mul_zero, Nat.zero_div]; omega
  have HX := Lib.hid (show bits .xor .i64 (h : Int) (bb : Int) = (y : Int) by rw [i64_xor_nat h bb hh hbl, ← hy]; unfold otherN; rw [hs2, hbb])
  have HS := Lib.hid hs
  have HKX := Lib.hid hx
  have hd : (n : Int) / 2 = (m : Int) := by omega
  have hm0 : (0 : Int) ≤ (m : Int) := by omega
  have hm1 : (m : Int) ≤ 128 := by omega
  have hwr : IntKind.i64.wrap (m : Int) = (m : Int) := by simp [IntKind.wrap, IntKind.bits, IntKind.signed]; omega
  clear hs2 hbb hy hs hx hn hbl hb
  go_enter Try.func76, Try.ntmps76
  go_wp2_with fail
  go_quiet (first | (go_at_call 88; exact Calls.quiet_of_same (c_spec_l04Salt_v S 2 s2 _ HS.out (by decide) HS2.out)) | (go_at_call 84; exact Calls.quiet_of_same (c_spec_l02Below_w x s2 m bb _ HKX.out HK2.out (by omega) HB.out)))
  go_wp2
  go_ret
  exact ⟨congrArg Ending.returned (congrArg (Value.int IntKind.i64) HX.out), _, rfl⟩
theorem c_spec_l04Finger (b : Nat) (S : Int) (a : Option Addr) (n cap m : Nat) (key : Int) (f h : Nat) (w : World) (hn : n = 2 * m) (hm : m ≤ 128) (hs : keyB S = true) (hk : keyB key = true) (hf : fingN key S = f) (hh : houseN key S m = h) (hb : Box w b 41 #[.int .i64 S, .slice a n cap]) :
    Calls Try.prog 74 #[.pointer (some ⟨b, 0, none⟩), .int .i64 key] w fun e w' => e = .returned (.tuple #[.int .i64 (f : Nat), .int .i64 (h : Nat)]) ∧ ∃ q, w' = w.drewN q := by
  obtain ⟨b0, b1⟩ := hb.two
  obtain ⟨q0, hq0⟩ : ∃ b, belowN key S 255 = b := ⟨_, rfl⟩
  have HB0 := Lib.hid hq0
  have hf1 : f = q0 + 1 := by rw [← hf, ← hq0]; rfl
  have hfb := fingN_bd key S
  rw [hf] at hfb
  obtain ⟨s1, hs1⟩ : ∃ s, saltZ S 1 = s := ⟨_, rfl⟩
  have HS1 := Lib.hid hs1
  have HK1 := Lib.hid (show keyB s1 = true by rw [← hs1]; exact saltZ_key S 1)
  have HH := Lib.hid (show belowN key s1 m = h by rw [← hh, ← hs1]; rfl)
  have HS := Lib.hid hs
  have HK := Lib.hid hk
  have hd : (n : Int) / 2 = (m : Int) := by omega
  have hm0 : (0 : Int) ≤ (m : Int) := by omega
  have hm1 : (m : Int) ≤ 128 := by omega
  have hwr : IntKind.i64.wrap (m : Int) = (m : Int) := by simp [IntKind.wrap, IntKind.bits, IntKind.signed]; omega
  clear hq0 hs1 hf hh hs hk hn hb
  subst hf1
  go_enter Try.func74, Try.ntmps74
  go_wp2_with fail
  go_quiet (first | (go_at_call 88; exact Calls.quiet_of_same (c_spec_l04Salt_v S 1 s1 _ HS.out (by decide) HS1.out)) | (go_at_call_of 84 (Value.int IntKind.i64 255); exact Calls.quiet_of_same (c_spec_l02Below_w key S 255 q0 _ HK.out HS.out (by decide) HB0.out)) | (go_at_call 84; exact Calls.quiet_of_same (c_spec_l02Below_w key s1 m h _ HK.out HK1.out (by omega) HH.out)))
  go_wp2
  go_ret2
  exact ⟨by first | rfl | (congr 1; simp), _, rfl⟩
theorem c_spec_l04Find (b : Nat) (S : Int) (a : Option Addr) (n cap m : Nat) (zs : List Int) (f : Int) (h o : Nat) (x : Int) (w : World) {r : Option Nat} (hr : firstC zs x (houseC (two h o)) 4 0 = r) (hn : n = 2 * m) (hm : m ≤ 128) (hs : keyB S = true) (hf : keyB f = true) (ho : otherN f S m h = o) (hh : h < m) (hol : o < m) (hz : Reads w a n (ints zs)) (hb : Box w b 41 #[.int .i64 S, .slice a n cap]) :
    Calls Try.prog 75 #[.pointer (some ⟨b, 0, none⟩), .int .i64 f, .int .i64 h, .int .i64 x] w fun e w' => e = .returned (.int .i64 (optI (-1) r)) ∧ Ext w w' := by
  have HZ := Lib.hid hz
  have HBX := Lib.hid hb
  have HR := Lib.hid hr
  have HO := Lib.hid ho
  have HS := Lib.hid hs
  have HKF := Lib.hid hf
  have HN := Lib.hid hn
  have hzl := hz.int.1
  clear hz hb hr ho hs hf hn
  go_enter Try.func75, Try.ntmps75
  go_wp2_with fail
  refine (c_spec_l04Other b S a n cap m f h o _ HN.out hm HS.out HKF.out (by omega) HO.out HBX.out).mono ?_; rintro e u1 ⟨rfl, q, rfl⟩
  go_wp2_with fail
  go_loopw [11] (fun i wr => ∃ k : Nat, k ≤ 4 ∧ i = .int .i64 k ∧ Ext w wr ∧ Box wr w.heap.size 2 #[.int .i64 (2 * (h : Int)), .int .i64 (2 * (h : Int) + 1), .int .i64 (2 * (o : Int)), .int .i64 (2 * (o : Int) + 1)] ∧ ∀ j, j < k → zs[houseC (two h o) j]?.getD 0 ≠ x) (fun i _ => 4 - (intOf i).toNat)
  case atStart => exact ⟨0, Nat.zero_le _, rfl, by (repeat (first | assumption | exact Ext.refl _ | (with_reducible refine Ext.stepS ?_ (by first | exact Nat.le_refl _ | (simp; done) | (simp; omega)) _) | (with_reducible refine Ext.stepN ?_ _) | (with_reducible refine Ext.stepD ?_) | (with_reducible refine Ext.stepA ?_ _))), by first | exact Box.alloc_at w _ _ rfl | exact (Box.alloc_at w _ _ rfl).on (Ext.drewN _ _) | exact Box.alloc_at (w.drewN q) _ _ rfl, fun k hk => absurd hk (Nat.not_lt_zero _)⟩
  case round =>
    obtain ⟨k, hk, rfl, hext, hbox, hall⟩ := hrel
    have HEX := Lib.hid hext
    have HBB := Lib.hid hbox
    have HA := Lib.hid hall
    clear hext hbox hall
    obtain ⟨b0, b1⟩ := (HBX.out.on HEX.out).two
    by_cases hlt : k < 4
    · obtain ⟨c, hc⟩ : ∃ c, houseC (two h o) k = c := ⟨_, rfl⟩
      have HC := Lib.hid hc
      have hcn : c < n := by have hq := HN.out; rw [← hc]; unfold houseC two; split <;> omega
      have hcc : wr.cell? ⟨w.heap.size, k, none⟩ = some (.int .i64 (c : Int)) := by
        rw [HBB.out.cell k, ← hc]
        match k, hlt with
        | 0, _ => simp [houseC, two]
        | 1, _ => simp [houseC, two]
        | 2, _ => simp [houseC, two]
        | 3, _ => simp [houseC, two]
      obtain ⟨ab, ao, rfl, hac⟩ : ∃ b off, a = some ⟨b, off, none⟩ ∧ wr.cell? ⟨b, off + c, none⟩ = some (.int .i64 (zs[c]?.getD 0)) := by
        obtain ⟨_, hq⟩ := (HZ.out.on HEX.out).int
        rcases hq with h0 | ⟨b', off', rfl, hq⟩
        · omega
        · exact ⟨b', off', rfl, hq c hcn⟩
      obtain ⟨y, hy⟩ : ∃ y, zs[c]?.getD 0 = y := ⟨_, rfl⟩
      have HY := Lib.hid hy
      rw [hy] at hac
      have hcl : (c : Int) < (n : Int) := by omega
      have hc0 : (0 : Int) ≤ (c : Int) := by omega
      clear hy hc
      by_cases hxy : y = x
      · have HN := Lib.hid (show r = some c by rw [← HR.out]; have q := firstC_some (zs := zs) (x := x) (c := houseC (two h o)) 4 0 k (Nat.zero_le _) (by omega) (fun i _ hi => HA.out i hi) (by rw [HC.out, HY.out]; exact hxy); rw [HC.out] at q; exact q)
        subst hxy
        go_wp2_with fail
        first | (go_region) | fail
        all_goals
          go_wp2
          go_ret
          exact ⟨by rw [HN.out]; rfl, by have := HEX.out; (repeat (first | assumption | exact Ext.refl _ | (with_reducible refine Ext.stepS ?_ (by first | exact Nat.le_refl _ | (simp; done) | (simp; omega)) _) | (with_reducible refine Ext.stepN ?_ _) | (with_reducible refine Ext.stepD ?_) | (with_reducible refine Ext.stepA ?_ _)))⟩
      · have hd : (y == x) = false := by simpa using hxy
        have HYX := Lib.hid hxy
        go_wp2_with fail
        first | (go_region) | fail
        all_goals
          go_wp2
          go_roundw
          case rel => exact ⟨k + 1, by omega, by go_num, by have := HEX.out; (repeat (first | assumption | exact Ext.refl _ | (with_reducible refine Ext.stepS ?_ (by first | exact Nat.le_refl _ | (simp; done) | (simp; omega)) _) | (with_reducible refine Ext.stepN ?_ _) | (with_reducible refine Ext.stepD ?_) | (with_reducible refine Ext.stepA ?_ _))), HBB.out, fun j hj => by
            by_cases e : j = k
            · subst e; rw [HC.out, HY.out]; exact HYX.out
            · exact HA.out j (by omega)⟩
          case measure => simp [intOf]; omega
    · obtain rfl : k = 4 := by omega
      have HN := Lib.hid (show r = none by rw [← HR.out]; exact firstC_none _ _ (fun i _ hi => HA.out i (by omega)))
      go_wp2
      go_ret
      exact ⟨by rw [HN.out]; rfl, HEX.out⟩
end Go.Proofs.Ytfolflkbpdbkcab
