/- PlacesOf: both sides. -/
import Derived.Test.YtjckikcndoobnaaPla
import Derived.Test.YtjckikcndoobnaaPut
import Derived.Test.YtjckikcndoobnaaLcl
namespace Go.Proofs.Ytjckikcndoobnaa
open Go.ChangeShapes Go.WideShapes Go.ChangeAt Go.RowKit
set_option linter.unusedVariables false
def placesR (W D S : Int) (zs : List Int) (key : Int) : List Int × Bool := if cellsB W D S zs && keyB key then (placesZ W.toNat D.toNat S key, true) else ([], false)
theorem placesR_1 {W D S key : Int} {zs : List Int} (h : cellsB W D S zs = false) : placesR W D S zs key = ([], false) := by unfold placesR; rw [h]; rfl
theorem placesR_2 {W D S key : Int} {zs : List Int} (h : keyB key = false) : placesR W D S zs key = ([], false) := by unfold placesR; rw [h, Bool.and_false]; rfl
theorem placesR_y {m d : Nat} {S key : Int} {zs : List Int} (h : CellsOk m d S zs) (hk : keyB key = true) : placesR m d S zs key = (placesZ m d S key, true) := by
  unfold placesR
  rw [h.cellsB, hk]
  simp
theorem placesR_le {W D S key : Int} {zs rz : List Int} {rb : Bool} (h : placesR W D S zs key = (rz, rb)) : rz.length ≤ 1048576 := by
  unfold placesR at h
  split at h
  · rename_i hc
    simp only [Bool.and_eq_true] at hc
    obtain ⟨m, d, rfl, rfl, ok⟩ := cells_ok hc.1
    have := ok.d6
    simp only [Prod.mk.injEq] at h
    rw [← h.1, placesZ_length]
    simp; omega
  · simp only [Prod.mk.injEq] at h
    rw [← h.1]; exact Nat.zero_le _
theorem made_at {base size g : Nat} {e : TypeId} (w : World) (cur : Array Value) (cap : Nat) (hg : g = w.heap.size) (hb : base ≤ g) (hm : cap ≤ maxLen) (hs : cur.size = cap * size) : (w.alloc (.cells cur e)).ownsRow base e size (.slice (some ⟨g, 0, none⟩) 0 cap) 0 [] := by
  subst hg; exact World.ownsRow_made w cur cap hb hm hs
theorem rowIs_on {w w' : World} {b n : Nat} {t : TypeId} {f : Nat → Value} (h : w.rowIs b t n f) (e : Ext w w') : w'.rowIs b t n f := h.of_block (Below.block e b h.lt)
theorem c_impl_IsKey_e (k : Int) (w : World) {b : Bool} (h : keyB k = b) : Calls Try.prog 63 #[.int .i64 k] w fun e w' => e = .returned (.bool b) ∧ w = w' := by
  subst h; exact c_impl_IsKey k w
theorem c_spec_l02Key_e (k : Int) (w : World) {b : Bool} (h : keyB k = b) : Calls Try.prog 61 #[.int .i64 k] w fun e w' => e = .returned (.bool b) ∧ w = w' := by
  subst h; exact c_spec_l02Key k w
set_option maxHeartbeats 2000000 in
theorem c_impl_PlacesOf (W D S : Int) (a : Option Addr) (n cap : Nat) (zs : List Int) (key : Int) (w : World) {R : List Int} {b : Bool} (hv : placesR W D S zs key = (R, b)) (hm : n ≤ maxLen) (h : Reads w a n (ints zs)) :
    Calls Try.prog 27 #[.agg #[.int .i64 W, .int .i64 D, .int .i64 S, .slice a n cap], .int .i64 key] w (RetSB 2 R.length (ints R) b w) := by
  have H := Lib.hid h
  have BX := Lib.hid (Box.alloc w #[.int .i64 W, .int .i64 D, .int .i64 S, .slice a n cap] 27)
  have hn := h.int.1
  clear h
  cases hc : cellsB W D S zs
  · rw [placesR_1 hc] at hv
    simp only [Prod.mk.injEq] at hv
    obtain ⟨rfl, rfl⟩ := hv
    have HC := Lib.hid hc
    clear hc hn
    go_enter Try.func27, Try.ntmps27
    go_wp2_with fail
    refine (c_impl_ValidCells W D S a n cap zs _ HC.out hm (H.out.on (Ext.alloc _ _))).mono ?_; rintro e u1 ⟨rfl, x1⟩
    have X := (Ext.alloc _ _).trans x1
    clear x1
    go_wp2
    go_ret2
    exact ⟨none, 0, rfl, Own.nil _ _ _ _, X⟩
  · cases hk : keyB key
    · rw [placesR_2 hk] at hv
      simp only [Prod.mk.injEq] at hv
      obtain ⟨rfl, rfl⟩ := hv
      have HC := Lib.hid hc
      have HK := Lib.hid hk
      clear hc hk hn
      go_enter Try.func27, Try.ntmps27
      go_wp2_with fail
      refine (c_impl_ValidCells W D S a n cap zs _ HC.out hm (H.out.on (Ext.alloc _ _))).mono ?_; rintro e u1 ⟨rfl, x1⟩
      have X := (Ext.alloc _ _).trans x1
      clear x1
      go_wp2_with (go_at_call 63; refine (c_impl_IsKey_e key _ HK.out).mono ?_; rintro e w' ⟨rfl, rfl⟩)
      go_ret2
      exact ⟨none, 0, rfl, Own.nil _ _ _ _, X⟩
    · obtain ⟨m, d, rfl, rfl, ok⟩ := cells_ok hc
      rw [placesR_y ok hk] at hv
      simp only [Prod.mk.injEq] at hv
      obtain ⟨rfl, rfl⟩ := hv
      rw [placesZ_length]
      have hd6 := ok.d6
      have OK := Lib.hid ok
      have HC := Lib.hid hc
      have HK := Lib.hid hk
      have hmk := run_make_row' (P := Try.prog) 22 2 (.int .i64 0) 8 Try.underlying22 info_i64 rfl .i64 .i64 d (by omega) (by omega)
      clear hc hk ok hn
      go_enter Try.func27, Try.ntmps27
      go_wp2_with fail
      refine (c_impl_ValidCells m d S a n cap zs _ HC.out hm (H.out.on (Ext.alloc _ _))).mono ?_; rintro e u1 ⟨rfl, x1⟩
      have X := Lib.hid ((Ext.alloc _ _).trans x1)
      have BX1 := Lib.hid (BX.out.on x1)
      obtain ⟨b0, b1, b2, b3⟩ := BX1.out.four
      clear x1
      go_wp2_with (go_at_call 63; refine (c_impl_IsKey_e key _ HK.out).mono ?_; rintro e w' ⟨rfl, rfl⟩)
      clear b0 b1 b2 b3
      go_loopw [21] (fun i wr => ∃ k : Nat, k ≤ d ∧ i = .int .i64 k ∧ wr.rowIs u1.heap.size 2 d (fillF (placesZ m d S key) k) ∧ Ext u1 wr) (fun i _ => d - (intOf i).toNat)
      case atStart => exact ⟨0, Nat.zero_le _, rfl, (World.rowIs_made _ _ _ _).congr fun i _ => rfl, Ext.alloc _ _⟩
      case round =>
        obtain ⟨k, hk, rfl, hrow, hext⟩ := hrel
        have HR := Lib.hid hrow
        have HE := Lib.hid hext
        clear hrow hext
        by_cases hlt : k < d
        · obtain ⟨b0, b1, b2, b3⟩ := (BX1.out.on HE.out).four
          obtain ⟨p, hp⟩ : ∃ p, placeN m S key k = p := ⟨_, rfl⟩
          have HP := Lib.hid hp
          have HG := Lib.hid (show (placesZ m d S key)[k]?.getD 0 = (p : Int) by rw [placesZ_get m d S key k hlt, hp])
          clear hp
          go_wp2_with fail
          refine (c_impl_placeIn m d S key a n cap k _ (by have := OK.out.m2; omega) OK.out.m64 (by omega) OK.out.key HK.out).mono ?_; rw [HP.out]; rintro e u2 ⟨rfl, x2⟩
          have hrow := rowIs_on HR.out x2
          have hcur := hrow.cell hlt
          have hfro := hrow.frozen k
          have HS := Lib.hid (fillF_step (placesZ m d S key) k hrow)
          have HE2 := Lib.hid (HE.out.trans x2)
          have hsz := HE.out.size
          clear hrow x2 b0 b1 b2 b3
          go_wp2
          go_roundw
          case rel => exact ⟨k + 1, by omega, by go_num, by rw [← HG.out]; exact HS.out, Below.setCell HE2.out (Nat.le_refl _) _⟩
          case measure => simp [intOf]; omega
        · obtain rfl : k = d := by omega
          go_wp2
          go_ret2
          exact ⟨_, _, rfl, (own_made (by rw [ints_length, placesZ_length]) (Nat.le_refl _) HR.out (fun i hi => by rw [ints_get _ i (by rw [placesZ_length]; exact hi)]; unfold fillF; rw [if_pos hi])).wide X.out.size (Nat.le_refl _), X.out.trans HE.out⟩
set_option maxHeartbeats 2000000 in
theorem c_spec_PlacesOf (W D S : Int) (a : Option Addr) (n cap : Nat) (zs : List Int) (key : Int) (w : World) {R : List Int} {b : Bool} (hv : placesR W D S zs key = (R, b)) (hm : n ≤ maxLen) (h : Reads w a n (ints zs)) :
    Calls Try.prog 26 #[.agg #[.int .i64 W, .int .i64 D, .int .i64 S, .slice a n cap], .int .i64 key] w (RetSB 2 R.length (ints R) b w) := by
  have H := Lib.hid h
  have BX := Lib.hid (Box.alloc w #[.int .i64 W, .int .i64 D, .int .i64 S, .slice a n cap] 27)
  clear h
  cases hc : cellsB W D S zs
  · rw [placesR_1 hc] at hv
    simp only [Prod.mk.injEq] at hv
    obtain ⟨rfl, rfl⟩ := hv
    have HC := Lib.hid hc
    clear hc
    go_enter Try.func26, Try.ntmps26
    go_wp2_with (go_at_call 52; refine (c_spec_l03Is _ W D S a n cap zs _ HC.out BX.out hm (H.out.on (Ext.alloc _ _))).mono ?_; rintro e u1 ⟨rfl, q, rfl⟩)
    go_ret2
    exact ⟨none, 0, rfl, Own.nil _ _ _ _, by (repeat (first | assumption | exact Ext.refl _ | (with_reducible refine Ext.stepS ?_ (by first | exact Nat.le_refl _ | (simp; done) | (simp; omega)) _) | (with_reducible refine Ext.stepN ?_ _) | (with_reducible refine Ext.stepD ?_) | (with_reducible refine Ext.stepA ?_ _)))⟩
  · cases hk : keyB key
    · rw [placesR_2 hk] at hv
      simp only [Prod.mk.injEq] at hv
      obtain ⟨rfl, rfl⟩ := hv
      have HC := Lib.hid hc
      have HK := Lib.hid hk
      clear hc hk
      go_enter Try.func26, Try.ntmps26
      go_wp2_with (first | (go_at_call 52; refine (c_spec_l03Is _ W D S a n cap zs _ HC.out BX.out hm (H.out.on (Ext.alloc _ _))).mono ?_; rintro e u1 ⟨rfl, q, rfl⟩) | (go_at_call 61; refine (c_spec_l02Key_e key _ HK.out).mono ?_; rintro e w' ⟨rfl, rfl⟩))
      go_ret2
      exact ⟨none, 0, rfl, Own.nil _ _ _ _, by (repeat (first | assumption | exact Ext.refl _ | (with_reducible refine Ext.stepS ?_ (by first | exact Nat.le_refl _ | (simp; done) | (simp; omega)) _) | (with_reducible refine Ext.stepN ?_ _) | (with_reducible refine Ext.stepD ?_) | (with_reducible refine Ext.stepA ?_ _)))⟩
    · obtain ⟨m, d, rfl, rfl, ok⟩ := cells_ok hc
      rw [placesR_y ok hk] at hv
      simp only [Prod.mk.injEq] at hv
      obtain ⟨rfl, rfl⟩ := hv
      rw [placesZ_length]
      have hd6 := ok.d6
      have OK := Lib.hid ok
      have HC := Lib.hid hc
      have HK := Lib.hid hk
      obtain ⟨i0, hi, hz0, hz1, hz2⟩ := info_parts info_i64
      clear hc hk ok
      go_enter Try.func26, Try.ntmps26
      go_wp2_with (first | (go_at_call 52; refine (c_spec_l03Is _ m d S a n cap zs _ HC.out BX.out hm (H.out.on (Ext.alloc _ _))).mono ?_; rintro e u1 ⟨rfl, q, rfl⟩) | (go_at_call 61; refine (c_spec_l02Key_e key _ HK.out).mono ?_; rintro e w' ⟨rfl, rfl⟩))
      go_loopw [6, 7] (fun v i wr => ∃ k : Nat, k ≤ d ∧ i = .int .i64 k ∧ wr.ownsRow (w.heap.size + 1) 2 1 v k (ints (placesZ m k S key)) ∧ Ext (w.alloc (.cells #[.int .i64 m, .int .i64 d, .int .i64 S, .slice a n cap] 27)) wr) (fun _ i _ => d - (intOf i).toNat)
      case atStart => exact ⟨0, Nat.zero_le _, rfl, made_at _ _ _ (by first | omega | (simp; done) | (simp; omega)) (by omega) (Nat.zero_le _) rfl, by (repeat (first | assumption | exact Ext.refl _ | (with_reducible refine Ext.stepS ?_ (by first | exact Nat.le_refl _ | (simp; done) | (simp; omega)) _) | (with_reducible refine Ext.stepN ?_ _) | (with_reducible refine Ext.stepD ?_) | (with_reducible refine Ext.stepA ?_ _)))⟩
      case round =>
        obtain ⟨k, hk, rfl, hown, hext⟩ := hrel
        have HO := Lib.hid hown
        have HE := Lib.hid hext
        have BX2 := Lib.hid (BX.out.on hext)
        obtain ⟨b0, b1, b2, b3⟩ := BX2.out.four
        clear hown hext
        by_cases hlt : k < d
        · obtain ⟨p, hp⟩ : ∃ p, placeN m S key k = p := ⟨_, rfl⟩
          have HP := Lib.hid hp
          have HT := Lib.hid (placesZ_snoc m k S key)
          clear hp
          go_wp2_with fail
          refine (c_spec_l03Place w.heap.size m d S key a n cap k _ (by have := OK.out.m2; omega) OK.out.m64 (by omega) OK.out.key HK.out BX2.out).mono ?_; rw [HP.out]; rintro e u2 ⟨rfl, q2, rfl⟩
          go_wp2_with (at_builtin; refine wpList_append_own _ rfl _ _ 22 rfl (w.heap.size + 1) 2 i0 (.int .i64 0) 1 8 Try.underlying22 hi hz0 hz1 hz2 rfl (by decide) _ _ _ rfl (HO.out.alloc _) ⟨_, 0, none⟩ 1 1 [.int .i64 (p : Int)] rfl rfl ?c1 ?c2 ?c3 ?c4 ?c5 ?_)
          case c1 => exact one_cell_at _ _ _
          case c2 => intro u hu; simp at hu; subst hu; rfl
          case c3 => unfold maxLen; omega
          case c4 => omega
          case c5 => have := HE.out.size; simp at this; first | omega | (simp; omega)
          intro v' w1 hown' hgrow _
          have HO' := Lib.hid hown'
          have HE' := Lib.hid ((((HE.out.stepN q2).stepA (.cells #[.int .i64 (p : Int)] 2)).trans (Below.refl _ _)))
          have HB' := Lib.hid (show Ext (w.alloc (.cells #[.int .i64 m, .int .i64 d, .int .i64 S, .slice a n cap] 27)) w1 from (HE'.out).grown hgrow (by have := HE.out.size; simp at this; first | omega | (simp; omega)) (fun j hj => by have := (HO.out.lt j hj).1; first | omega | (simp; omega)))
          clear hown' hgrow b0 b1 b2 b3
          go_wp2
          go_roundw
          case rel => exact ⟨k + 1, by omega, by go_num, by rw [HT.out, HP.out]; exact HO'.out, HB'.out⟩
          case measure => simp [intOf]; omega
        · obtain rfl : k = d := by omega
          obtain ⟨a', c', hv, ho⟩ := Own.of_row (e := 0) HO.out
          subst hv
          have HO' := Lib.hid ho
          clear ho
          go_wp2
          go_ret2
          exact ⟨_, _, rfl, HO'.out.wide (by omega) (Nat.le_refl _), (Ext.alloc _ _).trans HE.out⟩
end Go.Proofs.Ytjckikcndoobnaa
