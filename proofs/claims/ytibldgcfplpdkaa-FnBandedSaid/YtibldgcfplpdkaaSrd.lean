/- The source of choices: next, pick, one; a new source. -/
import Derived.Test.YtibldgcfplpdkaaSrc
import Derived.Deep.QuietTactic
namespace Go.Proofs.Ytibldgcfplpdkaa
open Go.ChangeShapes Go.WideShapes Go.ChangeAt Go.RowKit
set_option linter.unusedVariables false
theorem u64_in (z : Int) : 0 ≤ IntKind.u64.wrap z ∧ IntKind.u64.wrap z < 18446744073709551616 := by rw [IntKind.wrap_u64]; omega
theorem and255 {z : Int} (h0 : 0 ≤ z) (h1 : z < 18446744073709551616) : 0 ≤ bits .and .u64 z 255 ∧ bits .and .u64 z 255 < 256 := by
  rw [u64_and z 255 h0 h1 (by decide) (by decide)]
  have : z.toNat &&& (255 : Int).toNat = z.toNat % 256 := nat_mask8 z.toNat
  rw [this]; omega
theorem nxt_in (z : Int) : 0 ≤ wrap64 (bits .and .u64 (IntKind.u64.wrap z / 1099511627776) 255) ∧ wrap64 (bits .and .u64 (IntKind.u64.wrap z / 1099511627776) 255) < ((256 : Nat) : Int) := by
  have h := u64_in z
  have h2 := and255 (z := IntKind.u64.wrap z / 1099511627776) (by omega) (by omega)
  unfold wrap64
  omega
set_option maxRecDepth 100000 in
set_option maxHeartbeats 2000000 in
theorem c_next (g : Nat) (a : Option Addr) (len cap : Nat) (bs : List Int) (M : Nat) (w : World) (hM : M ≤ 1048576) (h : SrcAt w g a len cap bs M) :
    Calls Try.prog 206 #[.pointer (some ⟨g, 0, none⟩)] w (RetPick 256 g a len cap bs (M + 1) w) := by
  obtain ⟨k, sd, hb, hk, s0, s1⟩ := h.ex
  have hl := h.code.le
  obtain ⟨c0, c1, c2⟩ := hb.three
  obtain ⟨f0, f1, f2⟩ := (show w.frozen? ⟨g, 0, none⟩ = false ∧ w.frozen? ⟨g, 1, none⟩ = false ∧ w.frozen? ⟨g, 2, none⟩ = false from ⟨hb.frozen 0, hb.frozen 1, hb.frozen 2⟩)
  have HH := Lib.hid h
  by_cases hlt : k < len
  · obtain ⟨b, off, rfl⟩ := h.code.some (by omega)
    obtain ⟨z, z0, z1, hz⟩ := h.code.at hlt
    have hbg : b ≠ g := by have := h.far (by omega) _ rfl; dsimp only at this; omega
    have hgb : g ≠ b := fun e => hbg e.symm
    have l1 : (k : Int) < (len : Int) := by omega
    have l2 : (k : Int) + 1 ≤ (len : Int) := by omega
    have hs0 := u64_in (IntKind.u64.wrap (IntKind.u64.wrap (sd * 6364136223846793005) + z) + 1442695040888963407)
    have HP := Lib.hid (fun m : Nat => (h.on (Ext.drewN w m)).put (k' := k + 1) (kk := (k : Int) + 1) (by omega) (by omega) hs0.1 hs0.2)
    clear h hb hs0
    go_enter Try.func206, Try.ntmps206
    go_wp2
    go_quiet (fail)
    go_wp2
    go_quiet (fail)
    go_wp2
    go_quiet (fail)
    go_wp2
    go_ret
    exact RetPick.mk z0 (by omega) ((HP.out _).on (Ext.drewN _ _)) (by (repeat (first | assumption | exact Touch.refl _ _ _ | (with_reducible refine Touch.stepS ?_ (by first | exact Nat.le_refl _ | (simp; done) | (simp; omega)) (by first | (simp; done) | (simp; omega)) _) | (with_reducible refine Touch.stepN ?_ _) | (with_reducible refine Touch.stepA ?_ _))))
  · have l1 : ¬ (k : Int) < (len : Int) := by omega
    have l2 : ¬ (k : Int) + 1 ≤ (len : Int) := by omega
    have hs0 := u64_in (IntKind.u64.wrap (IntKind.u64.wrap (sd * 6364136223846793005) + 0) + 1442695040888963407)
    have hs1 := u64_in (IntKind.u64.wrap (sd * 6364136223846793005) + 1442695040888963407)
    have HP := Lib.hid (fun (m : Nat) (s' : Int) (e0 : 0 ≤ s') (e1 : s' < 18446744073709551616) => (h.on (Ext.drewN w m)).put (k' := k + 1) (kk := (k : Int) + 1) (by omega) (by omega) e0 e1)
    clear h hb hs0 hs1
    go_enter Try.func206, Try.ntmps206
    go_wp2
    go_quiet (fail)
    go_wp2
    go_quiet (fail)
    go_wp2
    go_ret
    exact RetPick.mk (nxt_in _).1 (nxt_in _).2 ((HP.out _ _ (u64_in _).1 (u64_in _).2).on (Ext.drewN _ _)) (by (repeat (first | assumption | exact Touch.refl _ _ _ | (with_reducible refine Touch.stepS ?_ (by first | exact Nat.le_refl _ | (simp; done) | (simp; omega)) (by first | (simp; done) | (simp; omega)) _) | (with_reducible refine Touch.stepN ?_ _) | (with_reducible refine Touch.stepA ?_ _))))
set_option maxHeartbeats 1000000 in
theorem c_pick (g : Nat) (a : Option Addr) (len cap : Nat) (bs : List Int) (M n : Nat) (w : World) (hM : M ≤ 1048575) (h1 : 1 ≤ n) (hn : n ≤ 4294967296) (h : SrcAt w g a len cap bs M) :
    Calls Try.prog 96 #[.pointer (some ⟨g, 0, none⟩), .int .i64 n] w (RetPick n g a len cap bs (M + 2) w) := by
  have HH := Lib.hid h
  clear h
  by_cases h2 : n = 1
  · subst h2
    go_enter Try.func96, Try.ntmps96
    go_wp2
    go_ret
    exact RetPick.mk (by decide) (by decide) (HH.out.more (by omega)) (Touch.refl _ _ _)
  · have h3 : ¬ (n : Int) ≤ 1 := by omega
    by_cases h4 : n ≤ 200
    · have h5 : ¬ (200 : Int) < (n : Int) := by omega
      go_enter Try.func96, Try.ntmps96
      go_wp2_with fail
      refine (c_next g a len cap bs M _ (by omega) HH.out).mono ?_; rintro e w1 ⟨z, hz, rfl, hs, ht⟩
      have HS := Lib.hid hs
      have HT := Lib.hid ht
      clear hs ht
      go_wp2
      go_ret
      exact RetPick.mk (by first | exact Int.emod_nonneg _ (by omega) | omega) (by first | exact Int.emod_lt_of_pos _ (by omega) | omega) (HS.out.more (by omega)) HT.out
    · have h5 : (200 : Int) < (n : Int) := by omega
      go_enter Try.func96, Try.ntmps96
      go_wp2_with fail
      refine (c_next g a len cap bs M _ (by omega) HH.out).mono ?_; rintro e w1 ⟨z, hz, rfl, hs, ht⟩
      have HS := Lib.hid hs
      have HT := Lib.hid ht
      clear hs ht
      go_wp2_with fail
      refine (c_next g a len cap bs (M + 1) _ (by omega) HS.out).mono ?_; rintro e w2 ⟨y, hy, rfl, hs, ht⟩
      have HS2 := Lib.hid hs
      have HT2 := Lib.hid ht
      clear hs ht
      go_wp2
      go_ret
      exact RetPick.mk (by first | exact Int.emod_nonneg _ (by omega) | omega) (by first | exact Int.emod_lt_of_pos _ (by omega) | omega) HS2.out (HT.out.trans HT2.out)
def RetOne (g : Nat) (a : Option Addr) (len cap : Nat) (bs : List Int) (M : Nat) (w : World) (e : Ending) (w' : World) : Prop :=
  ∃ b : Bool, e = .returned (.bool b) ∧ SrcAt w' g a len cap bs M ∧ Touch g (g + 1) w w'
set_option maxHeartbeats 1000000 in
theorem c_one (g : Nat) (a : Option Addr) (len cap : Nat) (bs : List Int) (M n : Nat) (w : World) (hM : M ≤ 1048575) (h1 : 1 ≤ n) (hn : n ≤ 4294967296) (h : SrcAt w g a len cap bs M) :
    Calls Try.prog 142 #[.pointer (some ⟨g, 0, none⟩), .int .i64 n] w (RetOne g a len cap bs (M + 2) w) := by
  have HH := Lib.hid h
  clear h
  go_enter Try.func142, Try.ntmps142
  go_wp2_with fail
  refine (c_pick g a len cap bs M n _ hM h1 hn HH.out).mono ?_; rintro e w1 ⟨z, hz, rfl, hs, ht⟩
  have HS := Lib.hid hs
  have HT := Lib.hid ht
  clear hs ht
  go_wp2
  go_ret
  exact ⟨_, rfl, HS.out, HT.out⟩
def RetSrc (a : Option Addr) (len cap : Nat) (bs : List Int) (w : World) (e : Ending) (w' : World) : Prop := e = .returned (.pointer (some ⟨w.heap.size, 0, none⟩)) ∧ SrcAt w' w.heap.size a len cap bs 0 ∧ Ext w w' ∧ w'.heap.size = w.heap.size + 1
theorem c_l00From (a : Option Addr) (len cap : Nat) (bs : List Int) (w : World) (h : Code w a len bs) :
    Calls Try.prog 95 #[.slice a len cap] w (RetSrc a len cap bs w) := by
  have HH := Lib.hid h
  have HF := Lib.hid h.lt
  clear h
  go_enter Try.func95, Try.ntmps95
  go_wp2
  go_ret
  exact ⟨rfl, ⟨⟨0, 0, Box.alloc _ _ _, Nat.zero_le _, by decide, by decide⟩, HH.out.on (Ext.alloc _ _), HF.out⟩, Ext.alloc _ _, by simp⟩
end Go.Proofs.Ytibldgcfplpdkaa
