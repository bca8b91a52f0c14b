/- The source of choices, by what its answers are bounded: r8At, next, pick, one. -/
import Derived.Test.YtibldgcfplpdkaaRows
import Derived.Test.YtibldgcfplpdkaaOwn
import Derived.Test.YtibldgcfplpdkaaCel
import Derived.Test.YtibldgcfplpdkaaChc
import Derived.ProofKit
import Derived.OpenShut
import Derived.Handy
import Derived.Deep.DeepCutAuto
import Derived.BigQuiet
import Derived.Laws.Bits64
import Derived.Laws.BitsAllLaws
namespace Go.Proofs.Ytibldgcfplpdkaa
open Go.ChangeShapes Go.WideShapes Go.ChangeAt Go.RowKit
set_option linter.unusedVariables false
def bys (bs : List Int) : List Value := bs.map (Value.int .u8)
/-- bytes that are read -/
structure Code (w : World) (a : Option Addr) (len : Nat) (bs : List Int) : Prop where
  rd : Reads w a len (bys bs)
  le : len ≤ 1048576
  u8 : ∀ b ∈ bs, 0 ≤ b ∧ b ≤ 255
theorem Code.on {w w' : World} {a : Option Addr} {len : Nat} {bs : List Int} (h : Code w a len bs) (e : Ext w w') : Code w' a len bs := ⟨h.rd.on e, h.le, h.u8⟩
theorem Code.at {w : World} {b off len : Nat} {bs : List Int} (h : Code w (some ⟨b, off, none⟩) len bs) {i : Nat} (hi : i < len) : ∃ z, 0 ≤ z ∧ z ≤ 255 ∧ w.cell? ⟨b, off + i, none⟩ = some (.int .u8 z) := by
  have hl := h.rd.1
  unfold bys at hl
  rw [List.length_map] at hl
  rcases h.rd.2 with h0 | ⟨b', off', e, hc⟩
  · omega
  · cases e
    have := hc i hi
    have hi' : i < bs.length := by omega
    unfold bys at this
    rw [List.getElem?_map, List.getElem?_eq_getElem hi'] at this
    exact ⟨bs[i], (h.u8 _ (List.getElem_mem hi')).1, (h.u8 _ (List.getElem_mem hi')).2, this⟩
theorem Code.lt {w : World} {a : Option Addr} {len : Nat} {bs : List Int} (h : Code w a len bs) (h0 : 0 < len) : ∀ x, a = .some x → x.block < w.heap.size := by
  rcases h.rd.2 with h1 | ⟨b, off, rfl, hc⟩
  · omega
  · intro x hx
    cases hx
    have := hc 0 h0
    have hl := h.rd.1
    rw [List.getElem?_eq_getElem (by omega)] at this
    exact World.block_lt_of_cell? w ⟨b, off + 0, none⟩ this
theorem Code.some {w : World} {a : Option Addr} {len : Nat} {bs : List Int} (h : Code w a len bs) (h0 : 0 < len) : ∃ b off, a = .some ⟨b, off, none⟩ := by
  rcases h.rd.2 with h1 | ⟨b', off', e, _⟩
  · omega
  · exact ⟨_, _, e⟩
/-- what comes in as bytes -/
theorem Code.of {w : World} {a : Option Addr} {len cap : Nat} {zs : List Int} (hl : len ≤ 1048576)
    (h : (a = none ∧ len = 0 ∧ cap = 0 ∧ zs = []) ∨ ∃ x : Addr, a = .some x ∧ len ≤ cap ∧ cap ≤ maxLen ∧ zs.length = cap ∧ (∀ i, i < zs.length → w.cell? (x.add i) = .some (.int .u8 (zs.getD i 0))) ∧ ∀ n ∈ zs, (Lit.int .u8 n).wf = true) : Code w a len (zs.take len) := by
  rcases h with ⟨rfl, rfl, rfl, rfl⟩ | ⟨x, rfl, h1, h2, h3, hc, hw⟩
  · exact ⟨⟨rfl, .inl rfl⟩, hl, fun b hb => by cases hb⟩
  · refine ⟨⟨by unfold bys; rw [List.length_map, List.length_take]; omega, ?_⟩, hl, fun z hz => ?_⟩
    · by_cases h0 : len = 0
      · exact .inl h0
      · obtain ⟨b, off, spot⟩ := x
        have hs := hc 0 (by omega)
        have hspot : spot = none := by simpa [Addr.add] using World.cell?_spot hs
        subst hspot
        refine .inr ⟨b, off, rfl, fun i hi => ?_⟩
        have h1 := hc i (by omega)
        have e : (⟨b, off, none⟩ : Addr).add i = ⟨b, off + i, none⟩ := by unfold Addr.add; split <;> simp_all
        rw [e] at h1
        rw [h1]
        unfold bys
        rw [List.getElem?_map, List.getElem?_take, if_pos hi]
        have hi' : i < zs.length := by omega
        simp [hi']
    · have hm := hw _ (List.mem_of_mem_take hz)
      have hw : IntKind.u8.min ≤ z ∧ z ≤ IntKind.u8.max := by simpa [Lit.wf] using hm
      have e1 : IntKind.u8.min = 0 := rfl
      have e2 : IntKind.u8.max = 255 := rfl
      rw [e1, e2] at hw
      exact hw
def RetK (n : Nat) (w : World) (e : Ending) (w' : World) : Prop := ∃ k : Nat, k < n ∧ e = .returned (.int .i64 (k : Int)) ∧ w = w'
theorem RetK.mk {n : Nat} {w : World} {z : Int} (h0 : 0 ≤ z) (h1 : z < n) : RetK n w (.returned (.int .i64 z)) w := ⟨z.toNat, by omega, by rw [Int.toNat_of_nonneg h0], rfl⟩
set_option maxHeartbeats 1000000 in
theorem c_r8At (a : Option Addr) (len cap : Nat) (bs : List Int) (k n : Nat) (w : World) (h1 : 1 ≤ n) (hn : n ≤ 1048576) (hk : k ≤ 1048576) (h : Code w a len bs) :
    Calls Try.prog 17 #[.slice a len cap, .int .i64 k, .int .i64 n] w (RetK n w) := by
  by_cases h2 : n = 1
  · subst h2
    clear h
    go_enter Try.func17, Try.ntmps17
    go_wp2
    go_ret
    exact RetK.mk (by decide) (by decide)
  · have h3 : ¬ (n : Int) ≤ 1 := by omega
    by_cases hlt : k < len
    · obtain ⟨b, off, rfl⟩ := h.some (by omega)
      obtain ⟨z, z0, z1, hz⟩ := h.at hlt
      have hl := h.le
      have h4 : ¬ (len : Int) ≤ (k : Int) := by omega
      clear h h1 h2
      go_enter Try.func17, Try.ntmps17
      go_wp2
      go_ret
      exact RetK.mk (by first | exact Int.emod_nonneg _ (by omega) | omega) (by first | exact Int.emod_lt_of_pos _ (by omega) | omega)
    · have hl := h.le
      have h4 : (len : Int) ≤ (k : Int) := by omega
      clear h h1 h2
      go_enter Try.func17, Try.ntmps17
      go_wp2
      go_ret
      exact RetK.mk (by decide) (by omega)
theorem c_r8Long_no (a a' : Option Addr) (len cap len' cap' : Nat) (w : World) (h1 : len ≤ 48) (h2 : len' ≤ 48) : Calls Try.prog 15 #[.slice a len cap, .slice a' len' cap'] w fun e w' => e = .returned (.bool false) ∧ w = w' := by
  have h1' : ¬ (48 : Int) < (len : Int) := by omega
  have h2' : ¬ (48 : Int) < (len' : Int) := by omega
  have h1d : decide ((48 : Int) < (len : Int)) = false := decide_eq_false h1'
  have h2d : decide ((48 : Int) < (len' : Int)) = false := decide_eq_false h2'
  clear h1 h2
  go_enter Try.func15, Try.ntmps15
  go_wp2
  go_ret
  exact ⟨by first | rfl | (simp; done) | (simp; omega), rfl⟩
theorem c_r8Long_yes (a a' : Option Addr) (len cap len' cap' : Nat) (w : World) (h : ¬ (len ≤ 48 ∧ len' ≤ 48)) (m1 : len ≤ maxLen) (m2 : len' ≤ maxLen) : Calls Try.prog 15 #[.slice a len cap, .slice a' len' cap'] w fun e w' => e = .returned (.bool true) ∧ w = w' := by
  unfold maxLen at m1 m2
  by_cases h1 : len ≤ 48
  · have h1' : ¬ (48 : Int) < (len : Int) := by omega
    have h2' : (48 : Int) < (len' : Int) := by omega
    have h1d : decide ((48 : Int) < (len : Int)) = false := decide_eq_false h1'
    have h2d : decide ((48 : Int) < (len' : Int)) = true := decide_eq_true h2'
    clear h h1
    go_enter Try.func15, Try.ntmps15
    go_wp2
    go_ret
    exact ⟨by first | rfl | (simp; done) | (simp; omega), rfl⟩
  · have h1' : (48 : Int) < (len : Int) := by omega
    have h1d : decide ((48 : Int) < (len : Int)) = true := decide_eq_true h1'
    clear h h1
    go_enter Try.func15, Try.ntmps15
    go_wp2
    go_ret
    exact ⟨by first | rfl | (simp; done) | (simp; omega), rfl⟩
/-- a source in a block of the call's own -/
structure SrcAt (w : World) (g : Nat) (a : Option Addr) (len cap : Nat) (bs : List Int) (M : Nat) : Prop where
  ex : ∃ (k : Nat) (sd : Int), Box w g 201 #[.slice a len cap, .int .i64 (k : Int), .int .u64 sd] ∧ k ≤ M ∧ 0 ≤ sd ∧ sd < 18446744073709551616
  code : Code w a len bs
  far : 0 < len → ∀ x, a = .some x → x.block < g
theorem SrcAt.on {w w' : World} {g : Nat} {a : Option Addr} {len cap : Nat} {bs : List Int} {M : Nat} (h : SrcAt w g a len cap bs M) (e : Ext w w') : SrcAt w' g a len cap bs M := by
  obtain ⟨k, sd, hb, r⟩ := h.ex
  exact ⟨⟨k, sd, hb.on e, r⟩, h.code.on e, h.far⟩
theorem SrcAt.lt {w : World} {g : Nat} {a : Option Addr} {len cap : Nat} {bs : List Int} {M : Nat} (h : SrcAt w g a len cap bs M) : g < w.heap.size := by
  obtain ⟨k, sd, hb, r⟩ := h.ex
  exact hb.lt
theorem SrcAt.beside {w w' : World} {g lo hi : Nat} {a : Option Addr} {len cap : Nat} {bs : List Int} {M : Nat} (h : SrcAt w g a len cap bs M) (e : Touch lo hi w w') (hd : g < lo) : SrcAt w' g a len cap bs M := by
  obtain ⟨k, sd, hb, r⟩ := h.ex
  have hg := hb.lt
  refine ⟨⟨k, sd, hb.beside e (.inl hd), r⟩, ⟨?_, h.code.le, h.code.u8⟩, h.far⟩
  refine ⟨h.code.rd.1, ?_⟩
  rcases h.code.rd.2 with h0 | ⟨b, off, rfl, hc⟩
  · exact .inl h0
  · refine .inr ⟨b, off, rfl, fun i hi => ?_⟩
    rw [← hc i hi]
    have hbg := h.far (by omega) _ rfl
    dsimp only at hbg
    show w'.cell? _ = w.cell? _
    simp only [World.cell?]
    rw [e.block b (by omega) (.inl (by omega))]
theorem SrcAt.more {w : World} {g : Nat} {a : Option Addr} {len cap : Nat} {bs : List Int} {M M' : Nat} (h : SrcAt w g a len cap bs M) (e : M ≤ M') : SrcAt w g a len cap bs M' := by
  obtain ⟨k, sd, hb, h1, h2⟩ := h.ex
  exact ⟨⟨k, sd, hb, by omega, h2⟩, h.code, h.far⟩
theorem SrcAt.put {w : World} {g : Nat} {a : Option Addr} {len cap : Nat} {bs : List Int} {M k' : Nat} {s' kk : Int} (h : SrcAt w g a len cap bs M) (hk : k' ≤ M + 1) (ek : kk = (k' : Int)) (h0 : 0 ≤ s') (h1 : s' < 18446744073709551616) :
    SrcAt ((w.setCell ⟨g, 1, none⟩ (.int .i64 kk)).setCell ⟨g, 2, none⟩ (.int .u64 s')) g a len cap bs (M + 1) := by
  obtain ⟨k, sd, hb, r1, r2, r3⟩ := h.ex
  subst ek
  have hg := hb.lt
  have b2 := (hb.put 1 (.int .i64 (k' : Int))).put 2 (.int .u64 s')
  refine ⟨⟨k', s', b2, hk, h0, h1⟩, ⟨⟨h.code.rd.1, ?_⟩, h.code.le, h.code.u8⟩, h.far⟩
  rcases h.code.rd.2 with h0 | ⟨b, off, rfl, hc⟩
  · exact .inl h0
  · refine .inr ⟨b, off, rfl, fun i hi => ?_⟩
    rw [← hc i hi]
    have hbg := h.far (by omega) _ rfl
    dsimp only at hbg
    simp only [World.cell?]
    rw [Below.heap_setCell _ _ _ _ (by dsimp only; omega), Below.heap_setCell _ _ _ _ (by dsimp only; omega)]
def RetPick (n : Nat) (g : Nat) (a : Option Addr) (len cap : Nat) (bs : List Int) (M : Nat) (w : World) (e : Ending) (w' : World) : Prop :=
  ∃ z : Nat, z < n ∧ e = .returned (.int .i64 (z : Int)) ∧ SrcAt w' g a len cap bs M ∧ Touch g (g + 1) w w'
theorem RetPick.mk {n g : Nat} {a : Option Addr} {len cap : Nat} {bs : List Int} {M : Nat} {w w' : World} {z : Int} (h0 : 0 ≤ z) (h1 : z < n) (h : SrcAt w' g a len cap bs M) (t : Touch g (g + 1) w w') : RetPick n g a len cap bs M w (.returned (.int .i64 z)) w' := ⟨z.toNat, by omega, by rw [Int.toNat_of_nonneg h0], h, t⟩
theorem shr40 {z : Int} (h0 : 0 ≤ z) (h1 : z < 18446744073709551616) : 0 ≤ z / 1099511627776 ∧ z / 1099511627776 < 16777216 := by omega
end Go.Proofs.Ytibldgcfplpdkaa
