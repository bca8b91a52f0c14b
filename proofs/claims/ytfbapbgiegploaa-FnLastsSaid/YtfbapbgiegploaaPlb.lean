/- PlacesOf: both sides. -/
import Derived.Test.YtfbapbgiegploaaPla
import Derived.Test.YtfbapbgiegploaaPut
import Derived.Test.YtfbapbgiegploaaLcl
namespace Go.Proofs.Ytfbapbgiegploaa
open Go.ChangeShapes Go.WideShapes Go.ChangeAt Go.RowKit
set_option linter.unusedVariables false
def placesR (W D S : Int) (zs : List Int) (key : Int) : List Int × Bool := if cellsB W D S zs && keyB key then (placesZ W.toNat D.toNat S key, true) else ([], false)
theorem placesR_1 {W D S key : Int} {zs : List Int} (h : cellsB W D S zs = false) : placesR W D S zs key = ([], false) := by unfold placesR; rw [h]; rfl
theorem placesR_2 {W D S key : Int} {zs : List Int} (h : keyB key = false) : placesR W D S zs key = ([], false) := by unfold placesR; rw [h, Bool.and_false]; rfl
theorem placesR_y {m d : Nat} {S key : Int} {zs : List Int} (h : CellsOk m d S zs) (hk : keyB key = true) : placesR m d S zs key = (placesZ m d S key, true) := by
  unfold placesR
  rw [h.cellsB, hk]
  simp
theorem placesR_le {W D S key : Int} {zs rz : List Int} {rb : Bool} (h : placesR W D S zs key = (rz, rb)) : rz.length ≤ 1048576 := by
  unfold placesR at h
  split at h
  · rename_i hc
    simp only [Bool.and_eq_true] at hc
    obtain ⟨m, d, rfl, rfl, ok⟩ := cells_ok hc.1
    have := ok.d6
    simp only [Prod.mk.injEq] at h
    rw [← h.1, placesZ_length]
    simp; omega
  · simp only [Prod.mk.injEq] at h
    rw [← h.1]; exact Nat.zero_le _
theorem made_at {base size g : Nat} {e : TypeId} (w : World) (cur : Array Value) (cap : Nat) (hg : g = w.heap.size) (hb : base ≤ g) (hm : cap ≤ maxLen) (hs : cur.size = cap * size) : (w.alloc (.cells cur e)).ownsRow base e size (.slice (some ⟨g, 0, none⟩) 0 cap) 0 [] := by
  subst hg; exact World.ownsRow_made w cur cap hb hm hs
theorem rowIs_on {w w' : World} {b n : Nat} {t : TypeId} {f : Nat → Value} (h : w.rowIs b t n f) (e : Ext w w') : w'.rowIs b t n f := h.of_block (Below.block e b h.lt)
theorem c_impl_IsKey_e (k : Int) (w : World) {b : Bool} (h : keyB k = b) : Calls Try.prog 126 #[.int .i64 k] w fun e w' => e = .returned (.bool b) ∧ w = w' := by
  subst h; exact c_impl_IsKey k w
theorem c_spec_l02Key_e (k : Int) (w : World) {b : Bool} (h : keyB k = b) : Calls Try.prog 174 #[.int .i64 k] w fun e w' => e = .returned (.bool b) ∧ w = w' := by
  subst h; exact c_spec_l02Key k w
set_option maxHeartbeats 2000000 in
theorem c_impl_PlacesOf (W D S : Int) (a : Option Addr) (n cap : Nat) (zs : List Int) (key : Int) (w : World) {R : List Int} {b : Bool} (hv : placesR W D S zs key = (R, b)) (hm : n ≤ maxLen) (h : Reads w a n (ints zs)) :
    Calls Try.prog 224 #[.agg #[.int .i64 W, .int .i64 D, .int .i64 S, .slice a n cap], .int .i64 key] w (RetSB 2 R.length (ints R) b w) := by
  have H := Lib.hid h
  have BX := Lib.hid (Box.alloc w #[.int .i64 W, .int .i64 D, .int .i64 S, .slice a n cap] 57)
  have hn := h.int.1
  clear h
  cases hc : cellsB W D S zs
  · rw [placesR_1 hc] at hv
    simp only [Prod.mk.injEq] at hv
    obtain ⟨rfl, rfl⟩ := hv
    have HC := Lib.hid hc
    clear hc hn
    go_enter Try.func224, Try.ntmps224
    go_wp2_with fail
    refine (c_impl_ValidCells W D S a n cap zs _ HC.out hm (H.out.on (Ext.alloc _ _))).mono ?_; rintro e u1 ⟨rfl, x1⟩
    have X := (Ext.alloc _ _).trans x1
    clear x1
    go_wp2
    go_ret2
    exact ⟨none, 0, rfl, Own.nil _ _ _ _, X⟩
  · cases hk : keyB key
    · rw [placesR_2 hk] at hv
      simp only [Prod.mk.injEq] at hv
      obtain ⟨rfl, rfl⟩ := hv
      have HC := Lib.hid hc
      have HK := Lib.hid hk
      clear hc hk hn
      go_enter Try.func224, Try.ntmps224
      go_wp2_with fail
      refine (c_impl_ValidCells W D S a n cap zs _ HC.out hm (H.out.on (Ext.alloc _ _))).mono ?_; rintro e u1 ⟨rfl, x1⟩
      have X := (Ext.alloc _ _).trans x1
      clear x1
      go_wp2_with (go_at_call 126; refine (c_impl_IsKey_e key _ HK.out).mono ?_; rintro e w' ⟨rfl, rfl⟩)
      go_ret2
      exact ⟨none, 0, rfl, Own.nil _ _ _ _, X⟩
    · obtain ⟨m, d, rfl, rfl, ok⟩ := cells_ok hc
      rw [placesR_y ok hk] at hv
      simp only [Prod.mk.injEq] at hv
      obtain ⟨rfl, rfl⟩ := hv
      rw [placesZ_length]
      have hd6 := ok.d6
      have OK := Lib.hid ok
      have HC := Lib.hid hc
      have HK := Lib.hid hk
      have hmk := run_make_row' (P := Try.prog) 25 2 (.int .i64 0) 8 Try.underlying25 info_i64 rfl .i64 .i64 d (by omega) (by omega)
      clear hc hk ok hn
      go_enter Try.func224, Try.ntmps224
      go_wp2_with fail
      refine (c_impl_ValidCells m d S a n cap zs _ HC.out hm (H.out.on (Ext.alloc _ _))).mono ?_; rintro e u1 ⟨rfl, x1⟩
      have X := Lib.hid ((Ext.alloc _ _).trans x1)
      have BX1 := Lib.hid (BX.out.on x1)
      obtain ⟨b0, b1, b2, b3⟩ := BX1.out.four
      clear x1
      go_wp2_with (go_at_call 126; refine (c_impl_IsKey_e key _ HK.out).mono ?_; rintro e w' ⟨rfl, rfl⟩)
      clear b0 b1 b2 b3
      go_loopw [21] (fun i wr => ∃ k : Nat, k ≤ d ∧ i = .int .i64 k ∧ wr.rowIs u1.heap.size 2 d (fillF (placesZ m d S key) k) ∧ Ext u1 wr) (fun i _ => d - (intOf i).toNat)
      case atStart => exact ⟨0, Nat.zero_le _, rfl, (World.rowIs_made _ _ _ _).congr fun i _ => rfl, Ext.alloc _ _⟩
      case round =>
        obtain ⟨k, hk, rfl, hrow, hext⟩ := hrel
        have HR := Lib.hid hrow
        have HE := Lib.hid hext
        clear hrow hext
        by_cases hlt : k < d
        · obtain ⟨b0, b1, b2, b3⟩ := (BX1.out.on HE.out).four
          obtain ⟨p, hp⟩ : ∃ p, placeN m S key k = p := ⟨_, rfl⟩
          have HP := Lib.hid hp
          have HG := Lib.hid (show (placesZ m d S key)[k]?.getD 0 = (p : Int) by rw [placesZ_get m d S key k hlt, hp])
          clear hp
          go_wp2_with fail
          refine (c_impl_placeIn m d S key a n cap k _ (by have := OK.out.m2; omega) OK.out.m64 (by omega) OK.out.key HK.out).mono ?_; rw [HP.out]; rintro e u2 ⟨rfl, x2⟩
          have hrow := rowIs_on HR.out x2
          have hcur := hrow.cell hlt
          have hfro := hrow.frozen k
          have HS := Lib.hid (fillF_step (placesZ m d S key) k hrow)
          have HE2 := Lib.hid (HE.out.trans x2)
          have hsz := HE.out.size
          clear hrow x2 b0 b1 b2 b3
          go_wp2
          go_roundw
          case rel => exact ⟨k + 1, by omega, by go_num, by rw [← HG.out]; exact HS.out, Below.setCell HE2.out (Nat.le_refl _) _⟩
          case measure => simp [intOf]; omega
        · obtain rfl : k = d := by omega
          go_wp2
          go_ret2
          exact ⟨_, _, rfl, (own_made (by rw [ints_length, placesZ_length]) (Nat.le_refl _) HR.out (fun i hi => by rw [ints_get _ i (by rw [placesZ_length]; exact hi)]; unfold fillF; rw [if_pos hi])).wide X.out.size (Nat.le_refl _), X.out.trans HE.out⟩
end Go.Proofs.Ytfbapbgiegploaa
