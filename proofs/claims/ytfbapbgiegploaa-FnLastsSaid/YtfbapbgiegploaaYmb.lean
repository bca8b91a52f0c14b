/- The source of choices, by what its answers are bounded: r8At, next, pick, one. -/
import Derived.Test.YtfbapbgiegploaaRows
import Derived.Test.YtfbapbgiegploaaOwn
import Derived.Test.YtfbapbgiegploaaCel
import Derived.Test.YtfbapbgiegploaaChc
import Derived.ProofKit
import Derived.OpenShut
import Derived.Handy
import Derived.Deep.DeepCutAuto
import Derived.BigQuiet
import Derived.Laws.Bits64
import Derived.Laws.BitsAllLaws
import Derived.Deep.QuietTactic
import Derived.Test.YtfbapbgiegploaaAll
import Derived.Test.YtfbapbgiegploaaRow
import Derived.Test.YtfbapbgiegploaaFar
import Derived.WalkLawsBesides
namespace Go.Proofs.Ytfbapbgiegploaa
open Go.ChangeShapes Go.WideShapes Go.ChangeAt Go.RowKit
set_option linter.unusedVariables false
def bys (bs : List Int) : List Value := bs.map (Value.int .u8)
/-- bytes that are read -/
structure Code (w : World) (a : Option Addr) (len : Nat) (bs : List Int) : Prop where
  rd : Reads w a len (bys bs)
  le : len ≤ 1048576
  u8 : ∀ b ∈ bs, 0 ≤ b ∧ b ≤ 255
theorem Code.on {w w' : World} {a : Option Addr} {len : Nat} {bs : List Int} (h : Code w a len bs) (e : Ext w w') : Code w' a len bs := ⟨h.rd.on e, h.le, h.u8⟩
theorem Code.at {w : World} {b off len : Nat} {bs : List Int} (h : Code w (some ⟨b, off, none⟩) len bs) {i : Nat} (hi : i < len) : ∃ z, 0 ≤ z ∧ z ≤ 255 ∧ w.cell? ⟨b, off + i, none⟩ = some (.int .u8 z) := by
  have hl := h.rd.1
  unfold bys at hl
  rw [List.length_map] at hl
  rcases h.rd.2 with h0 | ⟨b', off', e, hc⟩
  · omega
  · cases e
    have := hc i hi
    have hi' : i < bs.length := by omega
    unfold bys at this
    rw [List.getElem?_map, List.getElem?_eq_getElem hi'] at this
    exact ⟨bs[i], (h.u8 _ (List.getElem_mem hi')).1, (h.u8 _ (List.getElem_mem hi')).2, this⟩
theorem Code.lt {w : World} {a : Option Addr} {len : Nat} {bs : List Int} (h : Code w a len bs) (h0 : 0 < len) : ∀ x, a = .some x → x.block < w.heap.size := by
  rcases h.rd.2 with h1 | ⟨b, off, rfl, hc⟩
  · omega
  · intro x hx
    cases hx
    have := hc 0 h0
    have hl := h.rd.1
    rw [List.getElem?_eq_getElem (by omega)] at this
    exact World.block_lt_of_cell? w ⟨b, off + 0, none⟩ this
theorem Code.some {w : World} {a : Option Addr} {len : Nat} {bs : List Int} (h : Code w a len bs) (h0 : 0 < len) : ∃ b off, a = .some ⟨b, off, none⟩ := by
  rcases h.rd.2 with h1 | ⟨b', off', e, _⟩
  · omega
  · exact ⟨_, _, e⟩
/-- what comes in as bytes -/
theorem Code.of {w : World} {a : Option Addr} {len cap : Nat} {zs : List Int} (hl : len ≤ 1048576)
    (h : (a = none ∧ len = 0 ∧ cap = 0 ∧ zs = []) ∨ ∃ x : Addr, a = .some x ∧ len ≤ cap ∧ cap ≤ maxLen ∧ zs.length = cap ∧ (∀ i, i < zs.length → w.cell? (x.add i) = .some (.int .u8 (zs.getD i 0))) ∧ ∀ n ∈ zs, (Lit.int .u8 n).wf = true) : Code w a len (zs.take len) := by
  rcases h with ⟨rfl, rfl, rfl, rfl⟩ | ⟨x, rfl, h1, h2, h3, hc, hw⟩
  · exact ⟨⟨rfl, .inl rfl⟩, hl, fun b hb => by cases hb⟩
  · refine ⟨⟨by unfold bys; rw [List.length_map, List.length_take]; omega, ?_⟩, hl, fun z hz => ?_⟩
    · by_cases h0 : len = 0
      · exact .inl h0
      · obtain ⟨b, off, spot⟩ := x
        have hs := hc 0 (by omega)
        have hspot : spot = none := by simpa [Addr.add] using World.cell?_spot hs
        subst hspot
        refine .inr ⟨b, off, rfl, fun i hi => ?_⟩
        have h1 := hc i (by omega)
        have e : (⟨b, off, none⟩ : Addr).add i = ⟨b, off + i, none⟩ := by unfold Addr.add; split <;> simp_all
        rw [e] at h1
        rw [h1]
        unfold bys
        rw [List.getElem?_map, List.getElem?_take, if_pos hi]
        have hi' : i < zs.length := by omega
        simp [hi']
    · have hm := hw _ (List.mem_of_mem_take hz)
      have hw : IntKind.u8.min ≤ z ∧ z ≤ IntKind.u8.max := by simpa [Lit.wf] using hm
      have e1 : IntKind.u8.min = 0 := rfl
      have e2 : IntKind.u8.max = 255 := rfl
      rw [e1, e2] at hw
      exact hw
def RetK (n : Nat) (w : World) (e : Ending) (w' : World) : Prop := ∃ k : Nat, k < n ∧ e = .returned (.int .i64 (k : Int)) ∧ w = w'
theorem RetK.mk {n : Nat} {w : World} {z : Int} (h0 : 0 ≤ z) (h1 : z < n) : RetK n w (.returned (.int .i64 z)) w := ⟨z.toNat, by omega, by rw [Int.toNat_of_nonneg h0], rfl⟩
set_option maxHeartbeats 1000000 in
theorem c_r8At (a : Option Addr) (len cap : Nat) (bs : List Int) (k n : Nat) (w : World) (h1 : 1 ≤ n) (hn : n ≤ 1048576) (hk : k ≤ 1048576) (h : Code w a len bs) :
    Calls Try.prog 16 #[.slice a len cap, .int .i64 k, .int .i64 n] w (RetK n w) := by
  by_cases h2 : n = 1
  · subst h2
    clear h
    go_enter Try.func16, Try.ntmps16
    go_wp2
    go_ret
    exact RetK.mk (by decide) (by decide)
  · have h3 : ¬ (n : Int) ≤ 1 := by omega
    by_cases hlt : k < len
    · obtain ⟨b, off, rfl⟩ := h.some (by omega)
      obtain ⟨z, z0, z1, hz⟩ := h.at hlt
      have hl := h.le
      have h4 : ¬ (len : Int) ≤ (k : Int) := by omega
      clear h h1 h2
      go_enter Try.func16, Try.ntmps16
      go_wp2
      go_ret
      exact RetK.mk (by first | exact Int.emod_nonneg _ (by omega) | omega) (by first | exact Int.emod_lt_of_pos _ (by omega) | omega)
    · have hl := h.le
      have h4 : (len : Int) ≤ (k : Int) := by omega
      clear h h1 h2
      go_enter Try.func16, Try.ntmps16
      go_wp2
      go_ret
      exact RetK.mk (by decide) (by omega)
theorem c_r8Long_no (a a' : Option Addr) (len cap len' cap' : Nat) (w : World) (h1 : len ≤ 48) (h2 : len' ≤ 48) : Calls Try.prog 15 #[.slice a len cap, .slice a' len' cap'] w fun e w' => e = .returned (.bool false) ∧ w = w' := by
  have h1' : ¬ (48 : Int) < (len : Int) := by omega
  have h2' : ¬ (48 : Int) < (len' : Int) := by omega
  have h1d : decide ((48 : Int) < (len : Int)) = false := decide_eq_false h1'
  have h2d : decide ((48 : Int) < (len' : Int)) = false := decide_eq_false h2'
  clear h1 h2
  go_enter Try.func15, Try.ntmps15
  go_wp2
  go_ret
  exact ⟨by first | rfl | (simp; done) | (simp; omega), rfl⟩
theorem c_r8Long_yes (a a' : Option Addr) (len cap len' cap' : Nat) (w : World) (h : ¬ (len ≤ 48 ∧ len' ≤ 48)) (m1 : len ≤ maxLen) (m2 : len' ≤ maxLen) : Calls Try.prog 15 #[.slice a len cap, .slice a' len' cap'] w fun e w' => e = .returned (.bool true) ∧ w = w' := by
  unfold maxLen at m1 m2
  by_cases h1 : len ≤ 48
  · have h1' : ¬ (48 : Int) < (len : Int) := by omega
    have h2' : (48 : Int) < (len' : Int) := by omega
    have h1d : decide ((48 : Int) < (len : Int)) = false := decide_eq_false h1'
    have h2d : decide ((48 : Int) < (len' : Int)) = true := decide_eq_true h2'
    clear h h1
    go_enter Try.func15, Try.ntmps15
    go_wp2
    go_ret
    exact ⟨by first | rfl | (simp; done) | (simp; omega), rfl⟩
  · have h1' : (48 : Int) < (len : Int) := by omega
    have h1d : decide ((48 : Int) < (len : Int)) = true := decide_eq_true h1'
    clear h h1
    go_enter Try.func15, Try.ntmps15
    go_wp2
    go_ret
    exact ⟨by first | rfl | (simp; done) | (simp; omega), rfl⟩
/-- a source in a block of the call's own -/
structure SrcAt (w : World) (g : Nat) (a : Option Addr) (len cap : Nat) (bs : List Int) (M : Nat) : Prop where
  ex : ∃ (k : Nat) (sd : Int), Box w g 220 #[.slice a len cap, .int .i64 (k : Int), .int .u64 sd] ∧ k ≤ M ∧ 0 ≤ sd ∧ sd < 18446744073709551616
  code : Code w a len bs
  far : 0 < len → ∀ x, a = .some x → x.block < g
theorem SrcAt.on {w w' : World} {g : Nat} {a : Option Addr} {len cap : Nat} {bs : List Int} {M : Nat} (h : SrcAt w g a len cap bs M) (e : Ext w w') : SrcAt w' g a len cap bs M := by
  obtain ⟨k, sd, hb, r⟩ := h.ex
  exact ⟨⟨k, sd, hb.on e, r⟩, h.code.on e, h.far⟩
theorem SrcAt.lt {w : World} {g : Nat} {a : Option Addr} {len cap : Nat} {bs : List Int} {M : Nat} (h : SrcAt w g a len cap bs M) : g < w.heap.size := by
  obtain ⟨k, sd, hb, r⟩ := h.ex
  exact hb.lt
theorem SrcAt.beside {w w' : World} {g lo hi : Nat} {a : Option Addr} {len cap : Nat} {bs : List Int} {M : Nat} (h : SrcAt w g a len cap bs M) (e : Touch lo hi w w') (hd : g < lo) : SrcAt w' g a len cap bs M := by
  obtain ⟨k, sd, hb, r⟩ := h.ex
  have hg := hb.lt
  refine ⟨⟨k, sd, hb.beside e (.inl hd), r⟩, ⟨?_, h.code.le, h.code.u8⟩, h.far⟩
  refine ⟨h.code.rd.1, ?_⟩
  rcases h.code.rd.2 with h0 | ⟨b, off, rfl, hc⟩
  · exact .inl h0
  · refine .inr ⟨b, off, rfl, fun i hi => ?_⟩
    rw [← hc i hi]
    have hbg := h.far (by omega) _ rfl
    dsimp only at hbg
    show w'.cell? _ = w.cell? _
    simp only [World.cell?]
    rw [e.block b (by omega) (.inl (by omega))]
theorem SrcAt.more {w : World} {g : Nat} {a : Option Addr} {len cap : Nat} {bs : List Int} {M M' : Nat} (h : SrcAt w g a len cap bs M) (e : M ≤ M') : SrcAt w g a len cap bs M' := by
  obtain ⟨k, sd, hb, h1, h2⟩ := h.ex
  exact ⟨⟨k, sd, hb, by omega, h2⟩, h.code, h.far⟩
theorem SrcAt.put {w : World} {g : Nat} {a : Option Addr} {len cap : Nat} {bs : List Int} {M k' : Nat} {s' kk : Int} (h : SrcAt w g a len cap bs M) (hk : k' ≤ M + 1) (ek : kk = (k' : Int)) (h0 : 0 ≤ s') (h1 : s' < 18446744073709551616) :
    SrcAt ((w.setCell ⟨g, 1, none⟩ (.int .i64 kk)).setCell ⟨g, 2, none⟩ (.int .u64 s')) g a len cap bs (M + 1) := by
  obtain ⟨k, sd, hb, r1, r2, r3⟩ := h.ex
  subst ek
  have hg := hb.lt
  have b2 := (hb.put 1 (.int .i64 (k' : Int))).put 2 (.int .u64 s')
  refine ⟨⟨k', s', b2, hk, h0, h1⟩, ⟨⟨h.code.rd.1, ?_⟩, h.code.le, h.code.u8⟩, h.far⟩
  rcases h.code.rd.2 with h0 | ⟨b, off, rfl, hc⟩
  · exact .inl h0
  · refine .inr ⟨b, off, rfl, fun i hi => ?_⟩
    rw [← hc i hi]
    have hbg := h.far (by omega) _ rfl
    dsimp only at hbg
    simp only [World.cell?]
    rw [Below.heap_setCell _ _ _ _ (by dsimp only; omega), Below.heap_setCell _ _ _ _ (by dsimp only; omega)]
def RetPick (n : Nat) (g : Nat) (a : Option Addr) (len cap : Nat) (bs : List Int) (M : Nat) (w : World) (e : Ending) (w' : World) : Prop :=
  ∃ z : Nat, z < n ∧ e = .returned (.int .i64 (z : Int)) ∧ SrcAt w' g a len cap bs M ∧ Touch g (g + 1) w w'
theorem RetPick.mk {n g : Nat} {a : Option Addr} {len cap : Nat} {bs : List Int} {M : Nat} {w w' : World} {z : Int} (h0 : 0 ≤ z) (h1 : z < n) (h : SrcAt w' g a len cap bs M) (t : Touch g (g + 1) w w') : RetPick n g a len cap bs M w (.returned (.int .i64 z)) w' := ⟨z.toNat, by omega, by rw [Int.toNat_of_nonneg h0], h, t⟩
theorem shr40 {z : Int} (h0 : 0 ≤ z) (h1 : z < 18446744073709551616) : 0 ≤ z / 1099511627776 ∧ z / 1099511627776 < 16777216 := by omega
end Go.Proofs.Ytfbapbgiegploaa
/- The source of choices: next, pick, one; a new source. -/
namespace Go.Proofs.Ytfbapbgiegploaa
open Go.ChangeShapes Go.WideShapes Go.ChangeAt Go.RowKit
set_option linter.unusedVariables false
theorem u64_in (z : Int) : 0 ≤ IntKind.u64.wrap z ∧ IntKind.u64.wrap z < 18446744073709551616 := by rw [IntKind.wrap_u64]; omega
theorem and255 {z : Int} (h0 : 0 ≤ z) (h1 : z < 18446744073709551616) : 0 ≤ bits .and .u64 z 255 ∧ bits .and .u64 z 255 < 256 := by
  rw [u64_and z 255 h0 h1 (by decide) (by decide)]
  have : z.toNat &&& (255 : Int).toNat = z.toNat % 256 := nat_mask8 z.toNat
  rw [this]; omega
theorem nxt_in (z : Int) : 0 ≤ wrap64 (bits .and .u64 (IntKind.u64.wrap z / 1099511627776) 255) ∧ wrap64 (bits .and .u64 (IntKind.u64.wrap z / 1099511627776) 255) < ((256 : Nat) : Int) := by
  have h := u64_in z
  have h2 := and255 (z := IntKind.u64.wrap z / 1099511627776) (by omega) (by omega)
  unfold wrap64
  omega
set_option maxRecDepth 100000 in
set_option maxHeartbeats 2000000 in
theorem c_next (g : Nat) (a : Option Addr) (len cap : Nat) (bs : List Int) (M : Nat) (w : World) (hM : M ≤ 1048576) (h : SrcAt w g a len cap bs M) :
    Calls Try.prog 208 #[.pointer (some ⟨g, 0, none⟩)] w (RetPick 256 g a len cap bs (M + 1) w) := by
  obtain ⟨k, sd, hb, hk, s0, s1⟩ := h.ex
  have hl := h.code.le
  obtain ⟨c0, c1, c2⟩ := hb.three
  obtain ⟨f0, f1, f2⟩ := (show w.frozen? ⟨g, 0, none⟩ = false ∧ w.frozen? ⟨g, 1, none⟩ = false ∧ w.frozen? ⟨g, 2, none⟩ = false from ⟨hb.frozen 0, hb.frozen 1, hb.frozen 2⟩)
  have HH := Lib.hid h
  by_cases hlt : k < len
  · obtain ⟨b, off, rfl⟩ := h.code.some (by omega)
    obtain ⟨z, z0, z1, hz⟩ := h.code.at hlt
    have hbg : b ≠ g := by have := h.far (by omega) _ rfl; dsimp only at this; omega
    have hgb : g ≠ b := fun e => hbg e.symm
    have l1 : (k : Int) < (len : Int) := by omega
    have l2 : (k : Int) + 1 ≤ (len : Int) := by omega
    have hs0 := u64_in (IntKind.u64.wrap (IntKind.u64.wrap (sd * 6364136223846793005) + z) + 1442695040888963407)
    have HP := Lib.hid (fun m : Nat => (h.on (Ext.drewN w m)).put (k' := k + 1) (kk := (k : Int) + 1) (by omega) (by omega) hs0.1 hs0.2)
    clear h hb hs0
    go_enter Try.func208, Try.ntmps208
    go_wp2
    go_quiet (fail)
    go_wp2
    go_quiet (fail)
    go_wp2
    go_quiet (fail)
    go_wp2
    go_ret
    exact RetPick.mk z0 (by omega) ((HP.out _).on (Ext.drewN _ _)) (by (repeat (first | assumption | exact Touch.refl _ _ _ | (with_reducible refine Touch.stepS ?_ (by first | exact Nat.le_refl _ | (simp; done) | (simp; omega)) (by first | (simp; done) | (simp; omega)) _) | (with_reducible refine Touch.stepN ?_ _) | (with_reducible refine Touch.stepA ?_ _))))
  · have l1 : ¬ (k : Int) < (len : Int) := by omega
    have l2 : ¬ (k : Int) + 1 ≤ (len : Int) := by omega
    have hs0 := u64_in (IntKind.u64.wrap (IntKind.u64.wrap (sd * 6364136223846793005) + 0) + 1442695040888963407)
    have hs1 := u64_in (IntKind.u64.wrap (sd * 6364136223846793005) + 1442695040888963407)
    have HP := Lib.hid (fun (m : Nat) (s' : Int) (e0 : 0 ≤ s') (e1 : s' < 18446744073709551616) => (h.on (Ext.drewN w m)).put (k' := k + 1) (kk := (k : Int) + 1) (by omega) (by omega) e0 e1)
    clear h hb hs0 hs1
    go_enter Try.func208, Try.ntmps208
    go_wp2
    go_quiet (fail)
    go_wp2
    go_quiet (fail)
    go_wp2
    go_ret
    exact RetPick.mk (nxt_in _).1 (nxt_in _).2 ((HP.out _ _ (u64_in _).1 (u64_in _).2).on (Ext.drewN _ _)) (by (repeat (first | assumption | exact Touch.refl _ _ _ | (with_reducible refine Touch.stepS ?_ (by first | exact Nat.le_refl _ | (simp; done) | (simp; omega)) (by first | (simp; done) | (simp; omega)) _) | (with_reducible refine Touch.stepN ?_ _) | (with_reducible refine Touch.stepA ?_ _))))
set_option maxHeartbeats 1000000 in
theorem c_pick (g : Nat) (a : Option Addr) (len cap : Nat) (bs : List Int) (M n : Nat) (w : World) (hM : M ≤ 1048575) (h1 : 1 ≤ n) (hn : n ≤ 4294967296) (h : SrcAt w g a len cap bs M) :
    Calls Try.prog 102 #[.pointer (some ⟨g, 0, none⟩), .int .i64 n] w (RetPick n g a len cap bs (M + 2) w) := by
  have HH := Lib.hid h
  clear h
  by_cases h2 : n = 1
  · subst h2
    go_enter Try.func102, Try.ntmps102
    go_wp2
    go_ret
    exact RetPick.mk (by decide) (by decide) (HH.out.more (by omega)) (Touch.refl _ _ _)
  · have h3 : ¬ (n : Int) ≤ 1 := by omega
    by_cases h4 : n ≤ 200
    · have h5 : ¬ (200 : Int) < (n : Int) := by omega
      go_enter Try.func102, Try.ntmps102
      go_wp2_with fail
      refine (c_next g a len cap bs M _ (by omega) HH.out).mono ?_; rintro e w1 ⟨z, hz, rfl, hs, ht⟩
      have HS := Lib.hid hs
      have HT := Lib.hid ht
      clear hs ht
      go_wp2
      go_ret
      exact RetPick.mk (by first | exact Int.emod_nonneg _ (by omega) | omega) (by first | exact Int.emod_lt_of_pos _ (by omega) | omega) (HS.out.more (by omega)) HT.out
    · have h5 : (200 : Int) < (n : Int) := by omega
      go_enter Try.func102, Try.ntmps102
      go_wp2_with fail
      refine (c_next g a len cap bs M _ (by omega) HH.out).mono ?_; rintro e w1 ⟨z, hz, rfl, hs, ht⟩
      have HS := Lib.hid hs
      have HT := Lib.hid ht
      clear hs ht
      go_wp2_with fail
      refine (c_next g a len cap bs (M + 1) _ (by omega) HS.out).mono ?_; rintro e w2 ⟨y, hy, rfl, hs, ht⟩
      have HS2 := Lib.hid hs
      have HT2 := Lib.hid ht
      clear hs ht
      go_wp2
      go_ret
      exact RetPick.mk (by first | exact Int.emod_nonneg _ (by omega) | omega) (by first | exact Int.emod_lt_of_pos _ (by omega) | omega) HS2.out (HT.out.trans HT2.out)
def RetOne (g : Nat) (a : Option Addr) (len cap : Nat) (bs : List Int) (M : Nat) (w : World) (e : Ending) (w' : World) : Prop :=
  ∃ b : Bool, e = .returned (.bool b) ∧ SrcAt w' g a len cap bs M ∧ Touch g (g + 1) w w'
set_option maxHeartbeats 1000000 in
theorem c_one (g : Nat) (a : Option Addr) (len cap : Nat) (bs : List Int) (M n : Nat) (w : World) (hM : M ≤ 1048575) (h1 : 1 ≤ n) (hn : n ≤ 4294967296) (h : SrcAt w g a len cap bs M) :
    Calls Try.prog 116 #[.pointer (some ⟨g, 0, none⟩), .int .i64 n] w (RetOne g a len cap bs (M + 2) w) := by
  have HH := Lib.hid h
  clear h
  go_enter Try.func116, Try.ntmps116
  go_wp2_with fail
  refine (c_pick g a len cap bs M n _ hM h1 hn HH.out).mono ?_; rintro e w1 ⟨z, hz, rfl, hs, ht⟩
  have HS := Lib.hid hs
  have HT := Lib.hid ht
  clear hs ht
  go_wp2
  go_ret
  exact ⟨_, rfl, HS.out, HT.out⟩
def RetSrc (a : Option Addr) (len cap : Nat) (bs : List Int) (w : World) (e : Ending) (w' : World) : Prop := e = .returned (.pointer (some ⟨w.heap.size, 0, none⟩)) ∧ SrcAt w' w.heap.size a len cap bs 0 ∧ Ext w w' ∧ w'.heap.size = w.heap.size + 1
theorem c_l00From (a : Option Addr) (len cap : Nat) (bs : List Int) (w : World) (h : Code w a len bs) :
    Calls Try.prog 101 #[.slice a len cap] w (RetSrc a len cap bs w) := by
  have HH := Lib.hid h
  have HF := Lib.hid h.lt
  clear h
  go_enter Try.func101, Try.ntmps101
  go_wp2
  go_ret
  exact ⟨rfl, ⟨⟨0, 0, Box.alloc _ _ _, Nat.zero_le _, by decide, by decide⟩, HH.out.on (Ext.alloc _ _), HF.out⟩, Ext.alloc _ _, by simp⟩
end Go.Proofs.Ytfbapbgiegploaa
/- Lists that a source draws. -/
namespace Go.Proofs.Ytfbapbgiegploaa
open Go.ChangeShapes Go.WideShapes Go.ChangeAt Go.RowKit
set_option linter.unusedVariables false
theorem owns_beside {w w' : World} {base lo hi n : Nat} {t : TypeId} {v : Value} {xs : List Value} (h : w.ownsRow base t 1 v n xs) (e : Touch lo hi w w') (hd : hi ≤ base) : w'.ownsRow base t 1 v n xs := by
  have hlt := h.lt
  refine ⟨h.1, ?_⟩
  rcases h.2 with h0 | ⟨g, cap, cur, rfl, hb, hg, rest⟩
  · exact .inl h0
  · exact .inr ⟨g, cap, cur, rfl, hb, by rw [e.block g (hlt g rfl).2 (.inr (by omega))]; exact hg, rest⟩
theorem SrcAt.low {w w' : World} {g lo : Nat} {a : Option Addr} {len cap : Nat} {bs : List Int} {M : Nat} (h : SrcAt w g a len cap bs M) (e : Below lo w w') (hd : g < lo) : SrcAt w' g a len cap bs M := by
  obtain ⟨k, sd, hb, r⟩ := h.ex
  have hg := hb.lt
  refine ⟨⟨k, sd, (Below.block e g hd).trans hb, r⟩, ⟨⟨h.code.rd.1, ?_⟩, h.code.le, h.code.u8⟩, h.far⟩
  rcases h.code.rd.2 with h0 | ⟨b, off, rfl, hc⟩
  · exact .inl h0
  · refine .inr ⟨b, off, rfl, fun i hi => ?_⟩
    rw [← hc i hi]
    have hbg := h.far (by omega) _ rfl
    dsimp only at hbg
    exact Below.cell (p := ⟨b, off + i, none⟩) e (show b < lo by omega)
/-- a row of the call's own has grown by one: what lies below it is as it was -/
theorem grown_low {w w1 : World} {o : Obj} {base n : Nat} {t : TypeId} {v : Value} {xs : List Value} (hs : base ≤ w.heap.size) (h : w.ownsRow base t 1 v n xs) (hg : (w.alloc o).grownBy w1 v.ownBlock) : Below base w w1 :=
  (Below.alloc (Below.refl _ _) hs o).grown hg (by simp; omega) (fun j hj => (h.lt j hj).1)
def RetGen (n : Nat) (P : List Int → Prop) (w : World) (e : Ending) (w' : World) : Prop :=
  ∃ a c zs, e = .returned (.slice a n c) ∧ zs.length = n ∧ P zs ∧ Own 2 w' w.heap.size w'.heap.size a n c (ints zs) ∧ Ext w w'
/-- keys that rise -/
structure DifOk (n : Nat) (zs : List Int) (k : Nat) : Prop where
  le : k ≤ 99 + 1000000 * n
  b : ∀ i, i < n → 0 ≤ getI zs i ∧ getI zs i < k
  up : ∀ i j, i < j → j < n → getI zs i < getI zs j
theorem getI_snoc (zs : List Int) (x : Int) (i : Nat) : getI (zs ++ [x]) i = if i < zs.length then getI zs i else if i = zs.length then x else 0 := by
  unfold getI
  by_cases h : i < zs.length
  · rw [if_pos h, List.getElem?_append_left h]
  · rw [if_neg h]
    by_cases e : i = zs.length
    · subst e; rw [if_pos rfl, List.getElem?_append_right (Nat.le_refl _), Nat.sub_self]; rfl
    · rw [if_neg e, List.getElem?_eq_none (by rw [List.length_append, List.length_singleton]; omega)]; rfl
theorem DifOk.nil {k : Nat} (h : k < 100) : DifOk 0 [] k := ⟨by omega, fun i hi => by omega, fun i j _ hj => by omega⟩
theorem DifOk.snoc {n : Nat} {zs : List Int} {k z : Nat} (h : DifOk n zs k) (hl : zs.length = n) (hz : z < 1000000) : DifOk (n + 1) (zs ++ [(k : Int)]) (k + (1 + z)) := by
  refine ⟨by have := h.le; omega, fun i hi => ?_, fun i j hij hj => ?_⟩
  · rw [getI_snoc]
    by_cases e : i < zs.length
    · rw [if_pos e]; have := h.b i (by omega); omega
    · rw [if_neg e, if_pos (by omega)]; omega
  · rw [getI_snoc, getI_snoc, if_pos (by omega)]
    by_cases e : j < zs.length
    · rw [if_pos e]; exact h.up i j hij (by omega)
    · rw [if_neg e, if_pos (by omega)]; have := h.b i (by omega); omega
theorem ints_app (zs : List Int) (x : Int) : ints (zs ++ [x]) = ints zs ++ [.int .i64 x] := by unfold ints; rw [List.map_append]; rfl
def DifP (n : Nat) (zs : List Int) : Prop := ∃ k, DifOk n zs k
end Go.Proofs.Ytfbapbgiegploaa
/- b10At, b10Long; lists that B10Keys, B10List draw. -/
namespace Go.Proofs.Ytfbapbgiegploaa
open Go.ChangeShapes Go.WideShapes Go.ChangeAt Go.RowKit Go.Proofs.Ytfbapbgiegploaa.Flo
set_option linter.unusedVariables false
set_option maxHeartbeats 1000000 in
theorem c_b10At_k (a : Option Addr) (len cap : Nat) (bs : List Int) (k n : Nat) (w : World) (h1 : 1 ≤ n) (hn : n ≤ 1048576) (hk : k ≤ 1048576) (h : Code w a len bs) :
    Calls Try.prog 42 #[.slice a len cap, .int .i64 k, .int .i64 n] w (RetK n w) := by
  by_cases h2 : n = 1
  · subst h2
    clear h
    go_enter Try.func42, Try.ntmps42
    go_wp2
    go_ret
    exact RetK.mk (by decide) (by decide)
  · have h3 : ¬ (n : Int) ≤ 1 := by omega
    by_cases hlt : k < len
    · obtain ⟨b, off, rfl⟩ := h.some (by omega)
      obtain ⟨z, z0, z1, hz⟩ := h.at hlt
      have hl := h.le
      have h4 : (k : Int) < (len : Int) := by omega
      clear h h1 h2
      go_enter Try.func42, Try.ntmps42
      go_wp2
      go_ret
      exact RetK.mk (by first | exact Int.emod_nonneg _ (by omega) | omega) (by first | exact Int.emod_lt_of_pos _ (by omega) | omega)
    · have hl := h.le
      have h4 : ¬ (k : Int) < (len : Int) := by omega
      have h5 : (k : Int) ≤ 1048576 := by omega
      clear h h1 h2
      go_enter Try.func42, Try.ntmps42
      go_wp2
      go_ret
      exact RetK.mk (by first | exact Int.emod_nonneg _ (by omega) | omega) (by first | exact Int.emod_lt_of_pos _ (by omega) | omega)
theorem c_b10Long_of (a a' : Option Addr) (len cap len' cap' : Nat) (w : World) (b : Bool) (hb : (decide (1048576 < (len : Int)) || decide (1048576 < (len' : Int))) = b) : Calls Try.prog 40 #[.slice a len cap, .slice a' len' cap'] w fun e w' => e = .returned (.bool b) ∧ w = w' := by
  subst hb
  by_cases h : 1048576 < (len : Int)
  · have HD := Lib.hid (decide_eq_true h)
    go_enter Try.func40, Try.ntmps40
    go_wp2
    go_ret
    exact ⟨by rw [HD.out]; rfl, rfl⟩
  · have HD := Lib.hid (decide_eq_false h)
    go_enter Try.func40, Try.ntmps40
    go_wp2
    go_ret
    exact ⟨by rw [HD.out]; rfl, rfl⟩
/-- quarters -/
def qv (k : Nat) : Nat := (floatBits .quo .f32 (floatOfInt .f32 ((k : Int) - 16)) 1082130432).getD 0
def qOk (k : Nat) : Bool := (floatBits .quo .f32 (floatOfInt .f32 ((k : Int) - 16)) 1082130432 == some (qv k)) && (isFin .f32 (qv k) && decide (qv k < 4294967296))
theorem qAll : (List.range 33).all qOk = true := by decide +kernel
theorem qv_all {k : Nat} (h : k < 33) : floatBits .quo .f32 (floatOfInt .f32 ((k : Int) - 16)) 1082130432 = some (qv k) ∧ isFin .f32 (qv k) = true ∧ qv k < 4294967296 := by
  have := List.all_eq_true.1 qAll k (List.mem_range.2 h)
  unfold qOk at this
  simp only [Bool.and_eq_true, beq_iff_eq, decide_eq_true_eq] at this
  exact ⟨this.1, this.2.1, this.2.2⟩
def RetGenF (n : Nat) (P : List Nat → Prop) (w : World) (e : Ending) (w' : World) : Prop :=
  ∃ a c zs, e = .returned (.slice a n c) ∧ zs.length = n ∧ P zs ∧ Own 28 w' w.heap.size w'.heap.size a n c (flos zs) ∧ Ext w w'
def QuaOk (zs : List Nat) : Prop := ∀ z ∈ zs, ∃ k, k < 33 ∧ z = qv k
theorem QuaOk.fin {zs : List Nat} (h : QuaOk zs) : (∀ z ∈ zs, isFin .f32 z = true) ∧ ∀ z ∈ zs, z < 4294967296 :=
  ⟨fun z hz => by obtain ⟨k, hk, rfl⟩ := h z hz; exact (qv_all hk).2.1, fun z hz => by obtain ⟨k, hk, rfl⟩ := h z hz; exact (qv_all hk).2.2⟩
theorem flos_app (zs : List Nat) (x : Nat) : flos (zs ++ [x]) = flos zs ++ [.float .f32 x] := by unfold flos; rw [List.map_append]; rfl
theorem flR_q {w : World} {op : BinOp} {k : FloatKind} {x y r : Nat} (h : floatBits op k x y = some r) : flR w op k x y = r := by unfold flR; rw [h]; rfl
theorem flD_q {op : BinOp} {k : FloatKind} {x y r : Nat} (h : floatBits op k x y = some r) : flD op k x y = 0 := by unfold flD; rw [h]; rfl
set_option maxRecDepth 100000 in
set_option maxHeartbeats 2000000 in
theorem c_B10List (a : Option Addr) (len cap : Nat) (bs : List Int) (N : Nat) (w : World) (hN : N ≤ 1024) (h : Code w a len bs) :
    Calls Try.prog 61 #[.slice a len cap, .int .i64 N] w (RetGenF N QuaOk w) := by
  obtain ⟨i0, hi, hz0, hz1, hz2⟩ := info_parts info_f32
  have HH := Lib.hid h
  clear h
  go_enter Try.func61, Try.ntmps61
  go_wp2_with fail
  refine (c_l00From a len cap bs _ HH.out).mono ?_; rintro e wb ⟨rfl, hs, hx, hsz⟩
  have HS0 := Lib.hid (hs.on (Ext.alloc _ (.cells #[] 28)))
  have HX0 := Lib.hid (hx.trans (Ext.alloc _ (.cells #[] 28)))
  have HZ := Lib.hid hsz
  have HO0 := Lib.hid (World.ownsRow_made (base := wb.heap.size) (e := 28) (size := 1) wb #[] 0 (Nat.le_refl _) (Nat.zero_le _) rfl)
  clear hs hx hsz
  go_wp2
  go_loopw [1, 6] (fun x v wr => ∃ (k j : Nat) (zs : List Nat), x = .int .i64 (k : Int) ∧ k + j = N ∧ zs.length = j ∧ QuaOk zs ∧ wr.ownsRow wb.heap.size 28 1 v j (flos zs) ∧ SrcAt wr w.heap.size a len cap bs (2 * j) ∧ Ext w wr) (fun x _ _ => (intOf x).toNat)
  case atStart => exact ⟨N, 0, [], rfl, rfl, rfl, fun z hz => (by cases hz), HO0.out, HS0.out, HX0.out⟩
  case round =>
    obtain ⟨k, j, zs, rfl, hkj, hzl, hd, hown, hsrc, hext⟩ := hrel
    have HO := Lib.hid hown
    have HS := Lib.hid hsrc
    have HX := Lib.hid hext
    have HD := Lib.hid hd
    have HZL := Lib.hid hzl
    have hbs : wb.heap.size ≤ wr.heap.size := by
      rcases hown.2 with ⟨rfl, _⟩ | ⟨g9, c9, r9, rfl, h91, h92, _⟩
      · have := HS.out.lt; have := HZ.out; omega
      · have := (hown.lt g9 rfl).2; omega
    have HBS := Lib.hid hbs
    clear hown hsrc hext hd hzl hbs
    by_cases hk : k = 0
    · have hkI : ¬ (0 : Int) < (k : Int) := by omega
      obtain ⟨a1, c1, rfl, ho⟩ := Own.of_row (e := 0) HO.out
      have O1 := Lib.hid ho
      have hjN : j = N := by omega
      subst hjN
      clear ho hk hkj
      go_wp2
      go_ret
      exact ⟨a1, c1, zs, rfl, HZL.out, HD.out, O1.out.wide (by have := HZ.out; omega) (Nat.le_refl _), HX.out⟩
    · obtain ⟨k, rfl⟩ : ∃ k', k = k' + 1 := ⟨k - 1, by omega⟩
      have hkI : (0 : Int) < ((k + 1 : Nat) : Int) := by omega
      clear hk
      go_wp2_with fail
      refine (c_pick _ a len cap bs (2 * j) 33 _ (by omega) (by decide) (by decide) HS.out).mono ?_; rintro e w2 ⟨y, hy, rfl, hs, ht⟩
      have HS2 := Lib.hid (hs.on (Ext.alloc _ (.cells #[.float .f32 (qv y)] 28)))
      have HSS := Lib.hid hs
      have HX2 := Lib.hid (Touch.ext HX.out ht (Nat.le_refl _))
      have HO2 := Lib.hid (owns_beside HO.out ht (by rw [HZ.out]; exact Nat.le_refl _))
      have HBS2 := Lib.hid (Nat.le_trans HBS.out ht.size)
      have HQ := Lib.hid (qv_all hy)
      have HY := Lib.hid hy
      have hyI : (y : Int) ≤ 32 := by omega
      have hq : ∀ wx : World, (binOp .quo 28 (.float .f32 (floatOfInt .f32 ((y : Int) - 16))) (.float .f32 1082130432)).run Try.prog wx = .ok (.float .f32 (qv y)) wx := fun wx => by
        rw [run_fl_quo, flR_q HQ.out.1, flD_q HQ.out.1, World.drewN_zero]
      clear hs ht hy
      go_wp2_with (at_builtin; refine wpList_append_own _ rfl _ _ 27 rfl wb.heap.size 28 i0 (.float .f32 0) 1 4 Try.underlying27 hi hz0 hz1 hz2 rfl (by decide) _ _ _ rfl (HO2.out.alloc _) ⟨_, 0, none⟩ 1 1 [.float .f32 (qv y)] rfl rfl (one_cell_at _ _ _) (by intro u hu; simp at hu; subst hu; rfl) (by unfold maxLen; omega) (by omega) (by have := HBS2.out; first | (simp; omega) | omega) ?_; intro v' w1 hown' hgrow _; have HO' := Lib.hid hown'; have HG := Lib.hid (grown_low HBS2.out HO2.out hgrow); have HX' := Lib.hid (show Ext w w1 from Below.trans HX2.out (Below.mono HG.out (by have := HZ.out; omega))); have HS' := Lib.hid (HSS.out.low HG.out (by have := HZ.out; omega)); clear hown' hgrow)
      go_roundw
      case rel => exact ⟨k, j + 1, zs ++ [qv y], by go_num, by omega, by rw [List.length_append, List.length_singleton, HZL.out], fun z hz => (List.mem_append.1 hz).elim (HD.out z) (fun h => ⟨y, HY.out, by simpa using h⟩), by rw [flos_app]; exact HO'.out, HS'.out.more (by omega), HX'.out⟩
      case measure => simp [intOf]
end Go.Proofs.Ytfbapbgiegploaa
/- Lists that a source draws: R8List, R8Keys, B10Keys. -/
namespace Go.Proofs.Ytfbapbgiegploaa
open Go.ChangeShapes Go.WideShapes Go.ChangeAt Go.RowKit
set_option linter.unusedVariables false
def BetOk (lo hi : Int) (zs : List Int) : Prop := ∀ z ∈ zs, lo ≤ z ∧ z ≤ hi
theorem BetOk.snoc {lo hi x : Int} {zs : List Int} (h : BetOk lo hi zs) (h1 : lo ≤ x) (h2 : x ≤ hi) : BetOk lo hi (zs ++ [x]) := fun z hz => (List.mem_append.1 hz).elim (h z) (fun e => by simp at e; subst e; exact ⟨h1, h2⟩)
set_option maxRecDepth 100000 in
set_option maxHeartbeats 2000000 in
theorem c_R8List (a : Option Addr) (len cap : Nat) (bs : List Int) (N : Nat) (w : World) (hN : N ≤ 1024) (h : Code w a len bs) :
    Calls Try.prog 17 #[.slice a len cap, .int .i64 N] w (RetGen N (BetOk (-6) 6) w) := by
  obtain ⟨i0, hi, hz0, hz1, hz2⟩ := info_parts info_i64
  have HH := Lib.hid h
  clear h
  go_enter Try.func17, Try.ntmps17
  go_wp2_with fail
  refine (c_l00From a len cap bs _ HH.out).mono ?_; rintro e wb ⟨rfl, hs, hx, hsz⟩
  have HS0 := Lib.hid (hs.on (Ext.alloc _ (.cells #[] 2)))
  have HX0 := Lib.hid (hx.trans (Ext.alloc _ (.cells #[] 2)))
  have HZ := Lib.hid hsz
  have HO0 := Lib.hid (World.ownsRow_made (base := wb.heap.size) (e := 2) (size := 1) wb #[] 0 (Nat.le_refl _) (Nat.zero_le _) rfl)
  clear hs hx hsz
  go_wp2
  go_loopw [1, 6] (fun x v wr => ∃ (k j : Nat) (zs : List Int), x = .int .i64 (k : Int) ∧ k + j = N ∧ zs.length = j ∧ BetOk (-6) 6 zs ∧ wr.ownsRow wb.heap.size 2 1 v j (ints zs) ∧ SrcAt wr w.heap.size a len cap bs (2 * j) ∧ Ext w wr) (fun x _ _ => (intOf x).toNat)
  case atStart => exact ⟨N, 0, [], rfl, rfl, rfl, fun z hz => (by cases hz), HO0.out, HS0.out, HX0.out⟩
  case round =>
    obtain ⟨k, j, zs, rfl, hkj, hzl, hd, hown, hsrc, hext⟩ := hrel
    have HO := Lib.hid hown
    have HS := Lib.hid hsrc
    have HX := Lib.hid hext
    have HD := Lib.hid hd
    have HZL := Lib.hid hzl
    have hbs : wb.heap.size ≤ wr.heap.size := by
      rcases hown.2 with ⟨rfl, _⟩ | ⟨g9, c9, r9, rfl, h91, h92, _⟩
      · have := HS.out.lt; have := HZ.out; omega
      · have := (hown.lt g9 rfl).2; omega
    have HBS := Lib.hid hbs
    clear hown hsrc hext hd hzl hbs
    by_cases hk : k = 0
    · have hkI : ¬ (0 : Int) < (k : Int) := by omega
      obtain ⟨a1, c1, rfl, ho⟩ := Own.of_row (e := 0) HO.out
      have O1 := Lib.hid ho
      have hjN : j = N := by omega
      subst hjN
      clear ho hk hkj
      go_wp2
      go_ret
      exact ⟨a1, c1, zs, rfl, HZL.out, HD.out, O1.out.wide (by have := HZ.out; omega) (Nat.le_refl _), HX.out⟩
    · obtain ⟨k, rfl⟩ : ∃ k', k = k' + 1 := ⟨k - 1, by omega⟩
      have hkI : (0 : Int) < ((k + 1 : Nat) : Int) := by omega
      clear hk
      go_wp2_with fail
      refine (c_pick _ a len cap bs (2 * j) 13 _ (by omega) (by decide) (by decide) HS.out).mono ?_; rintro e w2 ⟨y, hy, rfl, hs, ht⟩
      have HSS := Lib.hid hs
      have HX2 := Lib.hid (Touch.ext HX.out ht (Nat.le_refl _))
      have HO2 := Lib.hid (owns_beside HO.out ht (by rw [HZ.out]; exact Nat.le_refl _))
      have HBS2 := Lib.hid (Nat.le_trans HBS.out ht.size)
      have HY := Lib.hid hy
      have hyI : (y : Int) ≤ 12 := by omega
      clear hs ht hy
      go_wp2_with (at_builtin; refine wpList_append_own _ rfl _ _ 25 rfl wb.heap.size 2 i0 (.int .i64 0) 1 8 Try.underlying25 hi hz0 hz1 hz2 rfl (by decide) _ _ _ rfl (HO2.out.alloc _) ⟨_, 0, none⟩ 1 1 [.int .i64 ((y : Int) - 6)] rfl rfl (one_cell_at _ _ _) (by intro u hu; simp at hu; subst hu; rfl) (by unfold maxLen; omega) (by omega) (by have := HBS2.out; first | (simp; omega) | omega) ?_; intro v' w1 hown' hgrow _; have HO' := Lib.hid hown'; have HG := Lib.hid (grown_low HBS2.out HO2.out hgrow); have HX' := Lib.hid (show Ext w w1 from Below.trans HX2.out (Below.mono HG.out (by have := HZ.out; omega))); have HS' := Lib.hid (HSS.out.low HG.out (by have := HZ.out; omega)); clear hown' hgrow)
      go_roundw
      case rel => exact ⟨k, j + 1, zs ++ [(y : Int) - 6], by go_num, by omega, by rw [List.length_append, List.length_singleton, HZL.out], HD.out.snoc (by omega) (by omega), by rw [ints_app]; exact HO'.out, HS'.out.more (by omega), HX'.out⟩
      case measure => simp [intOf]
end Go.Proofs.Ytfbapbgiegploaa
