/- InPeeled: the program's side. -/
import Derived.Test.YtfolflkbpdbkcaaPee
import Derived.Deep.QuietTactic
import Derived.BigQuiet
import Derived.Deep.RegionWith
namespace Go.Proofs.Ytfolflkbpdbkcaa
open Go.ChangeShapes Go.WideShapes Go.ChangeAt Go.RowKit
set_option linter.unusedVariables false
theorem i64_xor_nat (a b : Nat) (ha : a < 4294967296) (hb : b < 4294967296) : bits .xor .i64 (a : Int) (b : Int) = ((a ^^^ b : Nat) : Int) := by
  have hx : a ^^^ b < 2 ^ 32 := Nat.xor_lt_two_pow (by omega) (by omega)
  have h1 : (BitVec.ofInt 64 (a : Int)).toNat = a := by
    rw [BitVec.ofInt_natCast, BitVec.toNat_ofNat]; exact Nat.mod_eq_of_lt (by omega)
  have h2 : (BitVec.ofInt 64 (b : Int)).toNat = b := by
    rw [BitVec.ofInt_natCast, BitVec.toNat_ofNat]; exact Nat.mod_eq_of_lt (by omega)
  show IntKind.i64.wrap ((BitVec.ofInt 64 (a : Int) ^^^ BitVec.ofInt 64 (b : Int)).toNat : Int) = _
  rw [BitVec.toNat_xor, h1, h2]
  simp [IntKind.wrap, IntKind.bits, IntKind.signed]
  omega
theorem xor_small {a b : Nat} (ha : a < 256) (hb : b < 256) : a ^^^ b < 256 := Nat.xor_lt_two_pow (n := 8) ha hb
theorem place3_lt {m : Nat} (S key : Int) {k : Nat} (h : 1 ≤ m) (hk : k < 3) : placeN m S key k < 3 * m := by
  have := placeN_lt (m := m) (d := 3) S key h hk
  omega
/-- the numbers of three cells -/
def cellN (zs : List Int) (p : Nat) : Nat := (zs[p]?.getD 0).toNat
theorem cellN_eq {zs : List Int} (hu : upB 255 zs = true) {p : Nat} (hp : p < zs.length) : zs[p]?.getD 0 = ((cellN zs p : Nat) : Int) ∧ cellN zs p < 256 := by
  have := upB_at hu hp
  unfold cellN
  omega
def toldN (zs : List Int) (m : Nat) (S key : Int) : Nat := cellN zs (placeN m S key 0) ^^^ cellN zs (placeN m S key 1) ^^^ cellN zs (placeN m S key 2)
def inPeelR (zs : List Int) (key S : Int) : Bool × Bool := if peelB zs && (keyB key && keyB S) then (decide (toldN zs (zs.length / 3) S key = belowN key (saltZ S 3) 255 + 1), true) else (false, false)
theorem inPeelR_1 {zs : List Int} {key S : Int} (h : peelB zs = false) : inPeelR zs key S = (false, false) := by unfold inPeelR; rw [h]; rfl
theorem inPeelR_2 {zs : List Int} {key S : Int} (h : keyB key = false) : inPeelR zs key S = (false, false) := by unfold inPeelR; rw [h]; simp
theorem inPeelR_3 {zs : List Int} {key S : Int} (h : keyB S = false) : inPeelR zs key S = (false, false) := by unfold inPeelR; rw [h]; simp
theorem inPeelR_y {zs : List Int} {key S : Int} {m t y : Nat} (h : peelB zs = true) (hk : keyB key = true) (hs : keyB S = true) (hl : zs.length = 3 * m) (ht : toldN zs m S key = t) (hy : belowN key (saltZ S 3) 255 + 1 = y) : inPeelR zs key S = (decide (t = y), true) := by
  unfold inPeelR; rw [h, hk, hs, hl, Nat.mul_div_cancel_left m (by decide), ht, hy]; rfl
theorem peel_ok {zs : List Int} (h : peelB zs = true) : ∃ m, zs.length = 3 * m ∧ 1 ≤ m ∧ m ≤ 128 ∧ upB 255 zs = true := by
  unfold peelB at h
  simp only [Bool.and_eq_true, decide_eq_true_eq] at h
  exact ⟨zs.length / 3, by omega, by omega, by omega, h.2⟩
set_option maxHeartbeats 2000000 in
theorem c_impl_toldOf (key S : Int) (a : Option Addr) (n cap m t : Nat) (zs : List Int) (w : World) (hk : keyB key = true) (hs : keyB S = true) (hn : n = 3 * m) (hm : m ≤ 128) (hm1 : 1 ≤ m) (h : Reads w a n (ints zs)) (hu : upB 255 zs = true) (ht : toldN zs m S key = t) :
    Calls Try.prog 78 #[.slice a n cap, .int .i64 key, .int .i64 S] w fun e w' => e = .returned (.int .i64 (t : Nat)) ∧ Ext w w' := by
  have hzl := h.int.1
  obtain ⟨p0, h0⟩ : ∃ p, placeN m S key 0 = p := ⟨_, rfl⟩
  obtain ⟨p1, h1⟩ : ∃ p, placeN m S key 1 = p := ⟨_, rfl⟩
  obtain ⟨p2, h2⟩ : ∃ p, placeN m S key 2 = p := ⟨_, rfl⟩
  have g0 : p0 < n := by rw [hn, ← h0]; exact place3_lt S key hm1 (by decide)
  have g1 : p1 < n := by rw [hn, ← h1]; exact place3_lt S key hm1 (by decide)
  have g2 : p2 < n := by rw [hn, ← h2]; exact place3_lt S key hm1 (by decide)
  obtain ⟨e0, l0⟩ := cellN_eq hu (p := p0) (by omega)
  obtain ⟨e1, l1⟩ := cellN_eq hu (p := p1) (by omega)
  obtain ⟨e2, l2⟩ := cellN_eq hu (p := p2) (by omega)
  have ht2 : cellN zs p0 ^^^ cellN zs p1 ^^^ cellN zs p2 = t := by rw [← ht, ← h0, ← h1, ← h2]; rfl
  obtain ⟨c0, hc0⟩ : ∃ c, cellN zs p0 = c := ⟨_, rfl⟩
  obtain ⟨c1, hc1⟩ : ∃ c, cellN zs p1 = c := ⟨_, rfl⟩
  obtain ⟨c2, hc2⟩ : ∃ c, cellN zs p2 = c := ⟨_, rfl⟩
  rw [hc0] at e0 l0 ht2
  rw [hc1] at e1 l1 ht2
  rw [hc2] at e2 l2 ht2
  have X0 := Lib.hid (show bits .xor .i64 0 (c0 : Int) = (c0 : Int) by rw [show (0 : Int) = ((0 : Nat) : Int) from rfl, i64_xor_nat 0 c0 (by omega) (by omega), Nat.zero_xor])
  have X1 := Lib.hid (i64_xor_nat c0 c1 (by omega) (by omega))
  have X2 := Lib.hid (i64_xor_nat (c0 ^^^ c1) c2 (by have := xor_small l0 l1; omega) (by omega))
  have HT := Lib.hid ht2
  have H := Lib.hid h
  have HK := Lib.hid hk
  have HS := Lib.hid hs
  have P0 := Lib.hid h0
  have P1 := Lib.hid h1
  have P2 := Lib.hid h2
  have hd : (n : Int) / 3 = (m : Int) := by omega
  have hm0 : (0 : Int) ≤ (m : Int) := by omega
  have hm3 : (m : Int) ≤ 128 := by omega
  have hwm : IntKind.i64.wrap (m : Int) = (m : Int) := by simp [IntKind.wrap, IntKind.bits, IntKind.signed]; omega
  obtain ⟨ab, ao, rfl, hac⟩ : ∃ b off, a = some ⟨b, off, none⟩ ∧ ∀ i, i < n → w.cell? ⟨b, off + i, none⟩ = some (.int .i64 (zs[i]?.getD 0)) := by
    rcases h.int.2 with h3 | ⟨b', off', rfl, hq⟩
    · omega
    · exact ⟨b', off', rfl, hq⟩
  have k0 := hac p0 g0
  have k1 := hac p1 g1
  have k2 := hac p2 g2
  rw [e0] at k0
  rw [e1] at k1
  rw [e2] at k2
  have HC0 := Lib.hid k0
  have HC1 := Lib.hid k1
  have HC2 := Lib.hid k2
  have hl0 : (p0 : Int) < (n : Int) := by omega
  have hl1 : (p1 : Int) < (n : Int) := by omega
  have hl2 : (p2 : Int) < (n : Int) := by omega
  clear h hk hs h0 h1 h2 hac k0 k1 k2 e0 e1 e2 hc0 hc1 hc2 ht ht2 hu hn hzl g0 g1 g2
  go_enter Try.func78, Try.ntmps78
  go_wp2_with fail
  refine (c_impl_peeledOf key S m p0 p1 p2 _ HK.out HS.out hm hm1 P0.out P1.out P2.out).mono ?_; rintro e u1 ⟨rfl, x1⟩
  have HX := Lib.hid x1
  have k0 := x1.some HC0.out
  have k1 := x1.some HC1.out
  have k2 := x1.some HC2.out
  clear x1
  have i0 : ∀ w, (Instr.index 88 (.agg #[.int .i64 (p0 : Nat), .int .i64 (p1 : Nat), .int .i64 (p2 : Nat)]) (.int .i64 0)).run Try.prog w = .ok (.int .i64 (p0 : Nat)) w := fun _ => by kernel_rfl
  have i1 : ∀ w, (Instr.index 88 (.agg #[.int .i64 (p0 : Nat), .int .i64 (p1 : Nat), .int .i64 (p2 : Nat)]) (.int .i64 1)).run Try.prog w = .ok (.int .i64 (p1 : Nat)) w := fun _ => by kernel_rfl
  have i2 : ∀ w, (Instr.index 88 (.agg #[.int .i64 (p0 : Nat), .int .i64 (p1 : Nat), .int .i64 (p2 : Nat)]) (.int .i64 2)).run Try.prog w = .ok (.int .i64 (p2 : Nat)) w := fun _ => by kernel_rfl
  go_wp2_with fail
  go_loopw [7, 16] (fun v i wr => wr = u1 ∧ ((i = .int .i64 0 ∧ v = .int .i64 0) ∨ (i = .int .i64 1 ∧ v = .int .i64 (c0 : Nat)) ∨ (i = .int .i64 2 ∧ v = .int .i64 (c0 ^^^ c1 : Nat)) ∨ (i = .int .i64 3 ∧ v = .int .i64 (t : Nat)))) (fun _ i _ => 3 - (intOf i).toNat)
  case atStart => exact ⟨rfl, .inl ⟨rfl, rfl⟩⟩
  case round =>
    obtain ⟨rfl, hr⟩ := hrel
    rcases hr with ⟨rfl, rfl⟩ | ⟨rfl, rfl⟩ | ⟨rfl, rfl⟩ | ⟨rfl, rfl⟩
    · go_wp2
      go_roundw
      case rel => exact ⟨by first | rfl | trivial, .inr (.inl ⟨by go_num, by rw [X0.out]⟩)⟩
      case measure => simp [intOf]
    · go_wp2
      go_roundw
      case rel => exact ⟨by first | rfl | trivial, .inr (.inr (.inl ⟨by go_num, by rw [X1.out]⟩))⟩
      case measure => simp [intOf]
    · obtain ⟨cc, hcc⟩ : ∃ c, c0 ^^^ c1 = c := ⟨_, rfl⟩
      have HCC := Lib.hid hcc
      rw [hcc]
      clear hcc
      go_wp2
      go_roundw
      case rel => exact ⟨by first | rfl | trivial, .inr (.inr (.inr ⟨by go_num, by rw [← HCC.out, X2.out, HT.out]⟩))⟩
      case measure => simp [intOf]
    · go_wp2
      go_ret
      exact ⟨rfl, HX.out⟩
end Go.Proofs.Ytfolflkbpdbkcaa
