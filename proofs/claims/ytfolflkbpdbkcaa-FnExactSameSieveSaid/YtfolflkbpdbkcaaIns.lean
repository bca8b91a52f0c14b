/- InSieve: both sides. -/
import Derived.Test.YtfolflkbpdbkcaaSiv
import Derived.Deep.RegionHeld3
namespace Go.Proofs.Ytfolflkbpdbkcaa
open Go.ChangeShapes Go.WideShapes Go.ChangeAt Go.RowKit
set_option linter.unusedVariables false
def allAt (f : Nat → Bool) (r : Nat) : Bool := (List.range r).all f
theorem allAt_no {f : Nat → Bool} {r k : Nat} (hk : k < r) (h : f k = false) : allAt f r = false := by
  unfold allAt
  rw [List.all_eq_false]
  exact ⟨k, List.mem_range.2 hk, by rw [h]; decide⟩
theorem allAt_yes {f : Nat → Bool} {r : Nat} (h : ∀ k, k < r → f k = true) : allAt f r = true := by
  unfold allAt
  rw [List.all_eq_true]
  exact fun k hk => h k (List.mem_range.1 hk)
def inSieveR (R S : Int) (bs : List Bool) (key : Int) : Bool × Bool := if gridB R S bs.length && keyB key then (allAt (fun k => bs[gplace S key bs.length k]?.getD false) R.toNat, true) else (false, false)
theorem inSieveR_1 {R S key : Int} {bs : List Bool} (h : gridB R S bs.length = false) : inSieveR R S bs key = (false, false) := by unfold inSieveR; rw [h]; rfl
theorem inSieveR_2 {R S key : Int} {bs : List Bool} (h : keyB key = false) : inSieveR R S bs key = (false, false) := by unfold inSieveR; rw [h, Bool.and_false]; rfl
theorem inSieveR_y {r : Nat} {S key : Int} {bs : List Bool} (h : gridB r S bs.length = true) (hk : keyB key = true) : inSieveR r S bs key = (allAt (fun k => bs[gplace S key bs.length k]?.getD false) r, true) := by
  unfold inSieveR; rw [h, hk]; simp
theorem ret_bb {a b c : Bool} (h : a = b) : Ending.returned (.tuple #[.bool a, .bool c]) = .returned (.tuple #[.bool b, .bool c]) := by rw [h]
set_option maxHeartbeats 4000000 in
theorem c_impl_InSieve (R S : Int) (a : Option Addr) (n cap : Nat) (bs : List Bool) (key : Int) (w : World) {v b : Bool} (hv : inSieveR R S bs key = (v, b)) (hm : n ≤ maxLen) (h : Reads w a n (bools bs)) :
    Calls Try.prog 29 #[.agg #[.int .i64 R, .int .i64 S, .slice a n cap], .int .i64 key] w fun e w' => e = .returned (.tuple #[.bool v, .bool b]) ∧ Ext w w' := by
  have hn := h.bool.1
  subst hn
  have H := Lib.hid h
  have BX := Lib.hid (Box.alloc w #[.int .i64 R, .int .i64 S, .slice a bs.length cap] 27)
  clear h
  cases hc : gridB R S bs.length
  · rw [inSieveR_1 hc] at hv
    simp only [Prod.mk.injEq] at hv
    obtain ⟨rfl, rfl⟩ := hv
    have HC := Lib.hid hc
    clear hc
    go_enter Try.func29, Try.ntmps29
    go_wp2_with (go_at_call 18; refine (c_impl_ValidSieve_n R S a bs.length cap _ HC.out hm).mono ?_; rintro e u1 ⟨rfl, x1⟩)
    go_ret2
    exact ⟨rfl, (Ext.alloc _ _).trans x1⟩
  cases hk : keyB key
  · rw [inSieveR_2 hk] at hv
    simp only [Prod.mk.injEq] at hv
    obtain ⟨rfl, rfl⟩ := hv
    have HC := Lib.hid hc
    have HK := Lib.hid hk
    clear hc hk
    go_enter Try.func29, Try.ntmps29
    go_wp2_with (first | (go_at_call 18; refine (c_impl_ValidSieve_n R S a bs.length cap _ HC.out hm).mono ?_; rintro e u1 ⟨rfl, x1⟩) | (go_at_call 63; refine (c_impl_IsKey_q key _ HK.out).mono ?_; rintro e w' ⟨rfl, rfl⟩))
    go_ret2
    exact ⟨rfl, (Ext.alloc _ _).trans x1⟩
  obtain ⟨r, m, rfl, hm2, ok⟩ := grid_ok hc
  obtain rfl : bs.length = m := by omega
  rw [inSieveR_y hc hk] at hv
  simp only [Prod.mk.injEq] at hv
  obtain ⟨hv, rfl⟩ := hv
  have HV := Lib.hid hv
  have OK := Lib.hid ok
  have HC := Lib.hid hc
  have HK := Lib.hid hk
  have hr8 := ok.r8
  have hr1 := ok.r1
  have hn1 := ok.n1
  have hn5 := ok.n512
  clear hc hk hv ok hm2
  go_enter Try.func29, Try.ntmps29
  go_wp2_with fail
  refine (c_impl_ValidSieve_n r S a bs.length cap _ HC.out hm).mono ?_; rintro e u1 ⟨rfl, x1⟩
  have X := Lib.hid ((Ext.alloc _ _).trans x1)
  have BX1 := Lib.hid (BX.out.on x1)
  obtain ⟨b0, b1, b2⟩ := BX1.out.three
  clear x1
  go_wp2_with (go_at_call 63; refine (c_impl_IsKey_q key _ HK.out).mono ?_; rintro e w' ⟨rfl, rfl⟩)
  refine (c_impl_gridOfSieve r S a bs.length cap _).mono ?_; rintro e u2 ⟨rfl, x2⟩
  have X2 := Lib.hid (X.out.trans x2)
  have BX2 := Lib.hid (BX1.out.on x2)
  clear x2
  go_wp2_with fail
  refine (c_impl_placesIn r bs.length S key _ OK.out HK.out).mono ?_; rintro e u3 ⟨pa, pc, rfl, o', x3⟩
  have X3 := Lib.hid (X2.out.trans x3)
  have BX3 := Lib.hid (BX2.out.on x3)
  have O := Lib.hid o'
  clear x3 o' b0 b1 b2
  obtain ⟨pb, po, rfl, hpc⟩ : ∃ b off, pa = some ⟨b, off, none⟩ ∧ ∀ k, k < r → u3.cell? ⟨b, off + k, none⟩ = some (.int .i64 ((gplace S key bs.length k : Nat) : Int)) := by
    obtain ⟨_, hq⟩ := O.out.reads.int
    rcases hq with h0 | ⟨b', off', rfl, hq⟩
    · omega
    · exact ⟨b', off', rfl, fun k hk => by rw [hq k hk, gplaces_get S key bs.length r k hk]⟩
  obtain ⟨ab, ao, rfl, hac⟩ : ∃ b off, a = some ⟨b, off, none⟩ ∧ ∀ p, p < bs.length → u3.cell? ⟨b, off + p, none⟩ = some (.bool (bs[p]?.getD false)) := by
    obtain ⟨_, hq⟩ := (H.out.on X3.out).bool
    rcases hq with h0 | ⟨b', off', rfl, hq⟩
    · omega
    · exact ⟨b', off', rfl, fun p hp => hq p hp⟩
  have HPC := Lib.hid hpc
  have HAC := Lib.hid hac
  clear hpc hac
  obtain ⟨f, hf⟩ : ∃ f : Nat → Bool, (fun k => bs[gplace S key bs.length k]?.getD false) = f := ⟨_, rfl⟩
  have HF := Lib.hid (show ∀ k, bs[gplace S key bs.length k]?.getD false = f k from fun k => congrFun hf k)
  have HV2 := Lib.hid (show allAt f r = v by rw [← hf]; exact HV.out)
  clear hf HV
  obtain ⟨b0, b1, b2⟩ := BX3.out.three
  go_wp2_with fail
  go_loop [21] (fun i => ∃ k : Nat, k ≤ r ∧ i = .int .i64 k ∧ ∀ j, j < k → f j = true) (fun i => r - (intOf i).toNat)
  case atStart => exact ⟨0, Nat.zero_le _, rfl, fun j hj => absurd hj (Nat.not_lt_zero _)⟩
  case round =>
    obtain ⟨k, hk, rfl, hall⟩ := hrel
    have HA := Lib.hid hall
    clear hall
    by_cases hlt : k < r
    · have hp1 := HPC.out k hlt
      have ha1 := HAC.out (gplace S key bs.length k) (gplace_lt S key k OK.out.n1)
      rw [HF.out k] at ha1
      obtain ⟨p, hp⟩ : ∃ p, gplace S key bs.length k = p := ⟨_, rfl⟩
      have hpl : p < bs.length := by rw [← hp]; exact gplace_lt S key k OK.out.n1
      rw [hp] at hp1 ha1
      have hpl2 : (p : Int) < (bs.length : Int) := by omega
      have hp01 : (0 : Int) ≤ (p : Int) := by omega
      clear hp
      cases hfk : f k
      · rw [hfk] at ha1
        have HR := Lib.hid (show v = false by rw [← HV2.out]; exact allAt_no hlt hfk)
        clear hfk
        go_wp2
        go_ret2
        exact ⟨ret_bb HR.out.symm, X3.out⟩
      · rw [hfk] at ha1
        have HK2 := Lib.hid hfk
        clear hfk
        go_wp2
        go_round
        case rel => exact ⟨k + 1, by omega, by go_num, fun j hj => by
          by_cases e : j = k
          · subst e; exact HK2.out
          · exact HA.out j (by omega)⟩
        case measure => simp [intOf]; omega
    · obtain rfl : k = r := by omega
      have HR := Lib.hid (show v = true by rw [← HV2.out]; exact allAt_yes HA.out)
      go_wp2
      go_ret2
      exact ⟨ret_bb HR.out.symm, X3.out⟩
set_option maxHeartbeats 4000000 in
theorem c_spec_InSieve (R S : Int) (a : Option Addr) (n cap : Nat) (bs : List Bool) (key : Int) (w : World) {v b : Bool} (hv : inSieveR R S bs key = (v, b)) (hm : n ≤ maxLen) (h : Reads w a n (bools bs)) :
    Calls Try.prog 28 #[.agg #[.int .i64 R, .int .i64 S, .slice a n cap], .int .i64 key] w fun e w' => e = .returned (.tuple #[.bool v, .bool b]) ∧ Ext w w' := by
  have hn := h.bool.1
  subst hn
  have H := Lib.hid h
  have BX := Lib.hid (Box.alloc w #[.int .i64 R, .int .i64 S, .slice a bs.length cap] 27)
  clear h
  cases hc : gridB R S bs.length
  · rw [inSieveR_1 hc] at hv
    simp only [Prod.mk.injEq] at hv
    obtain ⟨rfl, rfl⟩ := hv
    have HC := Lib.hid hc
    clear hc
    go_enter Try.func28, Try.ntmps28
    go_wp2_with (go_at_call 49; refine (c_spec_l04Is w.heap.size R S a bs.length cap _ HC.out BX.out hm).mono ?_; rintro e u1 ⟨rfl, q, rfl⟩; have x1 : Ext (w.alloc (.cells #[.int .i64 R, .int .i64 S, .slice a bs.length cap] 27)) ((w.alloc (.cells #[.int .i64 R, .int .i64 S, .slice a bs.length cap] 27)).drewN q) := Ext.drewN _ _)
    go_ret2
    exact ⟨rfl, (Ext.alloc _ _).trans x1⟩
  cases hk : keyB key
  · rw [inSieveR_2 hk] at hv
    simp only [Prod.mk.injEq] at hv
    obtain ⟨rfl, rfl⟩ := hv
    have HC := Lib.hid hc
    have HK := Lib.hid hk
    clear hc hk
    go_enter Try.func28, Try.ntmps28
    go_wp2_with (first | (go_at_call 49; refine (c_spec_l04Is w.heap.size R S a bs.length cap _ HC.out BX.out hm).mono ?_; rintro e u1 ⟨rfl, q, rfl⟩; have x1 : Ext (w.alloc (.cells #[.int .i64 R, .int .i64 S, .slice a bs.length cap] 27)) ((w.alloc (.cells #[.int .i64 R, .int .i64 S, .slice a bs.length cap] 27)).drewN q) := Ext.drewN _ _) | (go_at_call 57; refine (c_spec_l02Key_q key _ HK.out).mono ?_; rintro e w' ⟨rfl, rfl⟩))
    go_ret2
    exact ⟨rfl, (Ext.alloc _ _).trans x1⟩
  obtain ⟨r, m, rfl, hm2, ok⟩ := grid_ok hc
  obtain rfl : bs.length = m := by omega
  rw [inSieveR_y hc hk] at hv
  simp only [Prod.mk.injEq] at hv
  obtain ⟨hv, rfl⟩ := hv
  have HV := Lib.hid hv
  have OK := Lib.hid ok
  have HC := Lib.hid hc
  have HK := Lib.hid hk
  have hr8 := ok.r8
  have hr1 := ok.r1
  have hn1 := ok.n1
  have hn5 := ok.n512
  clear hc hk hv ok hm2
  go_enter Try.func28, Try.ntmps28
  go_wp2_with (first | (go_at_call 49; refine (c_spec_l04Is w.heap.size r S a bs.length cap _ HC.out BX.out hm).mono ?_; rintro e u1 ⟨rfl, q, rfl⟩; have x1 : Ext (w.alloc (.cells #[.int .i64 r, .int .i64 S, .slice a bs.length cap] 27)) ((w.alloc (.cells #[.int .i64 r, .int .i64 S, .slice a bs.length cap] 27)).drewN q) := Ext.drewN _ _) | (go_at_call 57; refine (c_spec_l02Key_q key _ HK.out).mono ?_; rintro e w' ⟨rfl, rfl⟩))
  refine (c_spec_l04Places r bs.length S key _ OK.out HK.out).mono ?_; rintro e u3 ⟨pa, pc, rfl, o', x3⟩
  have X3 := Lib.hid (show Ext w u3 from Ext.trans (by (repeat (first | assumption | exact Ext.refl _ | (with_reducible refine Ext.stepS ?_ (by first | exact Nat.le_refl _ | (simp; done) | (simp; omega)) _) | (with_reducible refine Ext.stepN ?_ _) | (with_reducible refine Ext.stepD ?_) | (with_reducible refine Ext.stepA ?_ _)))) x3)
  have BX3 := Lib.hid (show Box u3 w.heap.size 27 _ from Box.on BX.out (Ext.trans (by (repeat (first | assumption | exact Ext.refl _ | (with_reducible refine Ext.stepS ?_ (by first | exact Nat.le_refl _ | (simp; done) | (simp; omega)) _) | (with_reducible refine Ext.stepN ?_ _) | (with_reducible refine Ext.stepD ?_) | (with_reducible refine Ext.stepA ?_ _)))) x3))
  have O := Lib.hid o'
  clear x3 o' x1
  obtain ⟨pb, po, rfl, hpc⟩ : ∃ b off, pa = some ⟨b, off, none⟩ ∧ ∀ k, k < r → u3.cell? ⟨b, off + k, none⟩ = some (.int .i64 ((gplace S key bs.length k : Nat) : Int)) := by
    obtain ⟨_, hq⟩ := O.out.reads.int
    rcases hq with h0 | ⟨b', off', rfl, hq⟩
    · omega
    · exact ⟨b', off', rfl, fun k hk => by rw [hq k hk, gplaces_get S key bs.length r k hk]⟩
  obtain ⟨ab, ao, rfl, hac⟩ : ∃ b off, a = some ⟨b, off, none⟩ ∧ ∀ p, p < bs.length → u3.cell? ⟨b, off + p, none⟩ = some (.bool (bs[p]?.getD false)) := by
    obtain ⟨_, hq⟩ := (H.out.on X3.out).bool
    rcases hq with h0 | ⟨b', off', rfl, hq⟩
    · omega
    · exact ⟨b', off', rfl, fun p hp => hq p hp⟩
  have HPC := Lib.hid hpc
  have HAC := Lib.hid hac
  clear hpc hac
  obtain ⟨f, hf⟩ : ∃ f : Nat → Bool, (fun k => bs[gplace S key bs.length k]?.getD false) = f := ⟨_, rfl⟩
  have HF := Lib.hid (show ∀ k, bs[gplace S key bs.length k]?.getD false = f k from fun k => congrFun hf k)
  have HV2 := Lib.hid (show allAt f r = v by rw [← hf]; exact HV.out)
  clear hf HV
  obtain ⟨b0, b1, b2⟩ := BX3.out.three
  go_wp2_with fail
  go_loopw [7] (fun i wr => ∃ k : Nat, k ≤ r ∧ i = .int .i64 k ∧ (∀ j, j < k → f j = true) ∧ Ext u3 wr) (fun i _ => r - (intOf i).toNat)
  case atStart => exact ⟨0, Nat.zero_le _, rfl, fun j hj => absurd hj (Nat.not_lt_zero _), Ext.refl _⟩
  case round =>
    obtain ⟨k, hk, rfl, hall, hext⟩ := hrel
    have HA := Lib.hid hall
    have HE := Lib.hid hext
    clear hall hext b0 b1 b2
    obtain ⟨b0, b1, b2⟩ := (BX3.out.on HE.out).three
    by_cases hlt : k < r
    · have hp1 := HE.out.some (HPC.out k hlt)
      have ha1 := HE.out.some (HAC.out (gplace S key bs.length k) (gplace_lt S key k OK.out.n1))
      rw [HF.out k] at ha1
      obtain ⟨p, hp⟩ : ∃ p, gplace S key bs.length k = p := ⟨_, rfl⟩
      have hpl : p < bs.length := by rw [← hp]; exact gplace_lt S key k OK.out.n1
      rw [hp] at hp1 ha1
      have hpl2 : (p : Int) < (bs.length : Int) := by omega
      have hp01 : (0 : Int) ≤ (p : Int) := by omega
      clear hp
      cases hfk : f k
      · rw [hfk] at ha1
        have HR := Lib.hid (show v = false by rw [← HV2.out]; exact allAt_no hlt hfk)
        clear hfk
        go_wp2_with fail
        go_quiet (fail)
        go_wp2
        go_ret2
        exact ⟨ret_bb HR.out.symm, X3.out.trans (HE.out.stepN _)⟩
      · rw [hfk] at ha1
        have HK2 := Lib.hid hfk
        clear hfk
        go_wp2_with fail
        go_quiet (fail)
        go_wp2
        go_roundw
        case rel => exact ⟨k + 1, by omega, by go_num, fun j hj => by
          by_cases e : j = k
          · subst e; exact HK2.out
          · exact HA.out j (by omega), HE.out.stepN _⟩
        case measure => simp [intOf]; omega
    · obtain rfl : k = r := by omega
      have HR := Lib.hid (show v = true by rw [← HV2.out]; exact allAt_yes HA.out)
      go_wp2
      go_ret2
      exact ⟨ret_bb HR.out.symm, X3.out.trans HE.out⟩
end Go.Proofs.Ytfolflkbpdbkcaa
