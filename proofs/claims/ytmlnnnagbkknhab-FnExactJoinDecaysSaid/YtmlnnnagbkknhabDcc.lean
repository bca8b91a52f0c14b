/- Sums that decay: what both sides answer (ExpNumber below 0, DecayAt). -/
import Derived.Test.YtmlnnnagbkknhabDca
import Derived.Test.YtmlnnnagbkknhabDcb
import Derived.Deep.RegionHeld3
import Derived.Deep.DeepCutAuto
import Derived.Deep.LoopGhost
namespace Go.Proofs.Ytmlnnnagbkknhab
open Go.ChangeShapes Go.WideShapes Go.ChangeAt Go.RowKit Go.Proofs.Ytmlnnnagbkknhab.Flo
set_option linter.unusedVariables false
attribute [local go_sem] unary_neg_float run_store_float run_store_complex
theorem flR_some {w : World} {op : BinOp} {k : FloatKind} {x y r : Nat} (h : floatBits op k x y = some r) : flR w op k x y = r := by unfold flR; rw [h]; rfl
theorem flD_some {op : BinOp} {k : FloatKind} {x y r : Nat} (h : floatBits op k x y = some r) : flD op k x y = 0 := by unfold flD; rw [h]; rfl
set_option maxHeartbeats 8000000 in
theorem c_impl_ExpR (x r0 : Nat) (w : World) (hx : Neg x) (h : ExpR x r0) : Calls Try.prog 61 #[.float .f32 x] w fun e w' => e = .returned (.float .f32 r0) ∧ ∃ n, w' = w.drewN n := by
  have h1 := neg_gt hx
  rcases h with ⟨h2, rfl⟩ | ⟨h2, ⟨mm, ee, hd, hb⟩, hs⟩
  · clear hx
    go_enter Try.func61, Try.ntmps61
    go_wp2
    go_ret
    exact ⟨rfl, 0, rfl⟩
  have hok := (po_slim (expV_po hd hb)).1
  have HS := Lib.hid hs
  have hcv : ∀ wx : World, (convert 22 34 (.float .f32 x)).run Try.prog wx = .ok (.float .f64 (convR wx .f32 x .f64)) (wx.drewN (convD .f32 x .f64)) := fun wx => run_conv wx _ _ _ _ _ (by kernel_rfl) (by kernel_rfl)
  have HO := Lib.hid hok
  clear hok hs hd hb hx
  go_enter Try.func61, Try.ntmps61
  go_wp2_with fail
  (with_reducible refine upon_fl rfl ?_); intro t nt ht
  have HT := Lib.hid (ht.out.trans (by rw [fv_wideR] : _ = fop .quo .f64 (wide (fv .f32 x)) c256))
  clear ht h1 h2 hcv
  go_wp2_with fail
  go_loopw [4, 5] (fun q i wr => ∃ (j n p : Nat), j ≤ 12 ∧ i = .int .i64 (12 - (j : Int)) ∧ wr = w.drewN n ∧ q = .float .f64 p ∧ fv .f64 p = expP (fv .f64 t) j) (fun _ i _ => (intOf i).toNat)
  case atStart => exact ⟨0, _, _, by omega, rfl, rfl, rfl, rfl⟩
  case round =>
    obtain ⟨j, n, p, hj, rfl, rfl, rfl, hp⟩ := hrel
    have HP := Lib.hid hp
    clear hp
    by_cases h12 : j = 12
    · subst h12
      go_wp2_with fail
      go_loopw [4, 26] (fun q i wr => ∃ (j n r : Nat), j ≤ 8 ∧ i = .int .i64 (j : Int) ∧ wr = w.drewN n ∧ q = .float .f64 r ∧ fv .f64 r = sqN (fv .f64 p) j) (fun _ i _ => (8 - intOf i).toNat)
      case atStart => exact ⟨0, _, _, by omega, rfl, rfl, rfl, rfl⟩
      case round =>
        obtain ⟨j, n, r, hj, rfl, rfl, rfl, hr⟩ := hrel
        have HR := Lib.hid hr
        clear hr
        by_cases h8 : j = 8
        · subst h8
          have hcn : ∀ wx : World, (convert 34 22 (.float .f64 r)).run Try.prog wx = .ok (.float .f32 (convR wx .f64 r .f32)) (wx.drewN (convD .f64 r .f32)) := fun wx => run_conv wx _ _ _ _ _ (by kernel_rfl) (by kernel_rfl)
          go_wp2_with go_in
          go_ret
          have hv : fv .f64 r = expV (wide (fv .f32 x)) := by rw [HR.out, HP.out, HT.out]; rfl
          have ho := HO.out
          rw [← hv] at ho
          exact ⟨ret_float (fv_is (by rw [fv_slimR _ _ ho, hv]; exact HS.out)), _, rfl⟩
        · have hcs : j = 0 ∨ j = 1 ∨ j = 2 ∨ j = 3 ∨ j = 4 ∨ j = 5 ∨ j = 6 ∨ j = 7 := by omega
          clear h8 hj
          rcases hcs with rfl | rfl | rfl | rfl | rfl | rfl | rfl | rfl
          all_goals
            go_wp2_with fail
            (with_reducible refine upon_fl rfl ?_); intro c nc hc
            go_wp2
            go_roundw
            case rel => first | (refine ⟨_, _, _, _, _, _, _, ⟨1, _, c, by omega, rfl, rfl, rfl, ?_⟩, rfl⟩; rw [hc.out, HR.out]; rfl) | (refine ⟨_, _, _, _, _, _, _, ⟨2, _, c, by omega, rfl, rfl, rfl, ?_⟩, rfl⟩; rw [hc.out, HR.out]; rfl) | (refine ⟨_, _, _, _, _, _, _, ⟨3, _, c, by omega, rfl, rfl, rfl, ?_⟩, rfl⟩; rw [hc.out, HR.out]; rfl) | (refine ⟨_, _, _, _, _, _, _, ⟨4, _, c, by omega, rfl, rfl, rfl, ?_⟩, rfl⟩; rw [hc.out, HR.out]; rfl) | (refine ⟨_, _, _, _, _, _, _, ⟨5, _, c, by omega, rfl, rfl, rfl, ?_⟩, rfl⟩; rw [hc.out, HR.out]; rfl) | (refine ⟨_, _, _, _, _, _, _, ⟨6, _, c, by omega, rfl, rfl, rfl, ?_⟩, rfl⟩; rw [hc.out, HR.out]; rfl) | (refine ⟨_, _, _, _, _, _, _, ⟨7, _, c, by omega, rfl, rfl, rfl, ?_⟩, rfl⟩; rw [hc.out, HR.out]; rfl) | (refine ⟨_, _, _, _, _, _, _, ⟨8, _, c, by omega, rfl, rfl, rfl, ?_⟩, rfl⟩; rw [hc.out, HR.out]; rfl)
            case measure => simp [intOf]
    · have hcs : j = 0 ∨ j = 1 ∨ j = 2 ∨ j = 3 ∨ j = 4 ∨ j = 5 ∨ j = 6 ∨ j = 7 ∨ j = 8 ∨ j = 9 ∨ j = 10 ∨ j = 11 := by omega
      clear h12 hj
      rcases hcs with rfl | rfl | rfl | rfl | rfl | rfl | rfl | rfl | rfl | rfl | rfl | rfl
      all_goals
        go_wp2_with fail
        (with_reducible refine upon_fl rfl ?_); intro a nna hha
        go_wp2_with fail
        (with_reducible refine upon_fl rfl ?_); intro b nnb hhb
        go_wp2_with fail
        (with_reducible refine upon_fl rfl ?_); intro c nnc hhc
        go_wp2
        go_roundw
        case rel => first | (refine ⟨1, _, c, by omega, rfl, rfl, rfl, ?_⟩; rw [hhc.out, hhb.out, hha.out, HP.out]; rfl) | (refine ⟨2, _, c, by omega, rfl, rfl, rfl, ?_⟩; rw [hhc.out, hhb.out, hha.out, HP.out]; rfl) | (refine ⟨3, _, c, by omega, rfl, rfl, rfl, ?_⟩; rw [hhc.out, hhb.out, hha.out, HP.out]; rfl) | (refine ⟨4, _, c, by omega, rfl, rfl, rfl, ?_⟩; rw [hhc.out, hhb.out, hha.out, HP.out]; rfl) | (refine ⟨5, _, c, by omega, rfl, rfl, rfl, ?_⟩; rw [hhc.out, hhb.out, hha.out, HP.out]; rfl) | (refine ⟨6, _, c, by omega, rfl, rfl, rfl, ?_⟩; rw [hhc.out, hhb.out, hha.out, HP.out]; rfl) | (refine ⟨7, _, c, by omega, rfl, rfl, rfl, ?_⟩; rw [hhc.out, hhb.out, hha.out, HP.out]; rfl) | (refine ⟨8, _, c, by omega, rfl, rfl, rfl, ?_⟩; rw [hhc.out, hhb.out, hha.out, HP.out]; rfl) | (refine ⟨9, _, c, by omega, rfl, rfl, rfl, ?_⟩; rw [hhc.out, hhb.out, hha.out, HP.out]; rfl) | (refine ⟨10, _, c, by omega, rfl, rfl, rfl, ?_⟩; rw [hhc.out, hhb.out, hha.out, HP.out]; rfl) | (refine ⟨11, _, c, by omega, rfl, rfl, rfl, ?_⟩; rw [hhc.out, hhb.out, hha.out, HP.out]; rfl) | (refine ⟨12, _, c, by omega, rfl, rfl, rfl, ?_⟩; rw [hhc.out, hhb.out, hha.out, HP.out]; rfl)
        case measure => simp [intOf]
set_option maxHeartbeats 8000000 in
theorem c_spec_ExpWide_lt (y : Nat) (w : World) (h0 : (FloatKind.f64.format.order y y == some .eq) = true) (h1 : (FloatKind.f64.format.order y 4641240890982006784 == some .gt) = false) (h2 : (FloatKind.f64.format.order y 13864612927836782592 == some .lt) = true) : Calls Try.prog 102 #[.float .f64 y] w fun e w' => e = .returned (.float .f64 0) ∧ w = w' := by
  have h0' := bne_of_beq h0
  go_enter Try.func102, Try.ntmps102
  go_wp2
  go_ret
  exact ⟨rfl, rfl⟩
set_option maxHeartbeats 8000000 in
theorem c_spec_ExpWide (y : Nat) (w : World) (h0 : (FloatKind.f64.format.order y y == some .eq) = true) (h1 : (FloatKind.f64.format.order y 4641240890982006784 == some .gt) = false) (h2 : (FloatKind.f64.format.order y 13864612927836782592 == some .lt) = false) : Calls Try.prog 102 #[.float .f64 y] w fun e w' => ∃ r n, e = .returned (.float .f64 r) ∧ w' = w.drewN n ∧ fv .f64 r = expV (fv .f64 y) := by
  have h0' := bne_of_beq h0
  go_enter Try.func102, Try.ntmps102
  go_wp2_with fail
  (with_reducible refine upon_fl rfl ?_); intro t nt ht
  have HT := Lib.hid (show fv .f64 t = fop .quo .f64 (fv .f64 y) c256 from ht.out)
  clear ht h1 h2 h0 h0'
  go_wp2_with fail
  go_loopw [4, 5] (fun q i wr => ∃ (j n p : Nat), j ≤ 12 ∧ i = .int .i64 (12 - (j : Int)) ∧ wr = w.drewN n ∧ q = .float .f64 p ∧ fv .f64 p = expP (fv .f64 t) j) (fun _ i _ => (intOf i).toNat)
  case atStart => exact ⟨0, _, _, by omega, rfl, rfl, rfl, rfl⟩
  case round =>
    obtain ⟨j, n, p, hj, rfl, rfl, rfl, hp⟩ := hrel
    have HP := Lib.hid hp
    clear hp
    by_cases h12 : j = 12
    · subst h12
      go_wp2_with fail
      go_loopw [4, 6] (fun q i wr => ∃ (j n r : Nat), j ≤ 8 ∧ i = .int .i64 (j : Int) ∧ wr = w.drewN n ∧ q = .float .f64 r ∧ fv .f64 r = sqN (fv .f64 p) j) (fun _ i _ => (8 - intOf i).toNat)
      case atStart => exact ⟨0, _, _, by omega, rfl, rfl, rfl, rfl⟩
      case round =>
        obtain ⟨j, n, r, hj, rfl, rfl, rfl, hr⟩ := hrel
        have HR := Lib.hid hr
        clear hr
        by_cases h8 : j = 8
        · subst h8
          go_wp2
          go_ret
          exact ⟨r, _, rfl, rfl, by rw [HR.out, HP.out, HT.out]; rfl⟩
        · have hcs : j = 0 ∨ j = 1 ∨ j = 2 ∨ j = 3 ∨ j = 4 ∨ j = 5 ∨ j = 6 ∨ j = 7 := by omega
          clear h8 hj
          rcases hcs with rfl | rfl | rfl | rfl | rfl | rfl | rfl | rfl
          all_goals
            go_wp2_with fail
            (with_reducible refine upon_fl rfl ?_); intro c nc hc
            go_wp2
            go_roundw
            case rel => first | (refine ⟨_, _, _, _, _, _, _, _, _, ⟨1, _, c, by omega, rfl, rfl, rfl, ?_⟩, rfl⟩; rw [hc.out, HR.out]; rfl) | (refine ⟨_, _, _, _, _, _, _, _, _, ⟨2, _, c, by omega, rfl, rfl, rfl, ?_⟩, rfl⟩; rw [hc.out, HR.out]; rfl) | (refine ⟨_, _, _, _, _, _, _, _, _, ⟨3, _, c, by omega, rfl, rfl, rfl, ?_⟩, rfl⟩; rw [hc.out, HR.out]; rfl) | (refine ⟨_, _, _, _, _, _, _, _, _, ⟨4, _, c, by omega, rfl, rfl, rfl, ?_⟩, rfl⟩; rw [hc.out, HR.out]; rfl) | (refine ⟨_, _, _, _, _, _, _, _, _, ⟨5, _, c, by omega, rfl, rfl, rfl, ?_⟩, rfl⟩; rw [hc.out, HR.out]; rfl) | (refine ⟨_, _, _, _, _, _, _, _, _, ⟨6, _, c, by omega, rfl, rfl, rfl, ?_⟩, rfl⟩; rw [hc.out, HR.out]; rfl) | (refine ⟨_, _, _, _, _, _, _, _, _, ⟨7, _, c, by omega, rfl, rfl, rfl, ?_⟩, rfl⟩; rw [hc.out, HR.out]; rfl) | (refine ⟨_, _, _, _, _, _, _, _, _, ⟨8, _, c, by omega, rfl, rfl, rfl, ?_⟩, rfl⟩; rw [hc.out, HR.out]; rfl)
            case measure => simp [intOf]
    · have hcs : j = 0 ∨ j = 1 ∨ j = 2 ∨ j = 3 ∨ j = 4 ∨ j = 5 ∨ j = 6 ∨ j = 7 ∨ j = 8 ∨ j = 9 ∨ j = 10 ∨ j = 11 := by omega
      clear h12 hj
      rcases hcs with rfl | rfl | rfl | rfl | rfl | rfl | rfl | rfl | rfl | rfl | rfl | rfl
      all_goals
        go_wp2_with fail
        (with_reducible refine upon_fl rfl ?_); intro a nna hha
        go_wp2_with fail
        (with_reducible refine upon_fl rfl ?_); intro b nnb hhb
        go_wp2_with fail
        (with_reducible refine upon_fl rfl ?_); intro c nnc hhc
        go_wp2
        go_roundw
        case rel => first | (refine ⟨1, _, c, by omega, rfl, rfl, rfl, ?_⟩; rw [hhc.out, hhb.out, hha.out, HP.out]; rfl) | (refine ⟨2, _, c, by omega, rfl, rfl, rfl, ?_⟩; rw [hhc.out, hhb.out, hha.out, HP.out]; rfl) | (refine ⟨3, _, c, by omega, rfl, rfl, rfl, ?_⟩; rw [hhc.out, hhb.out, hha.out, HP.out]; rfl) | (refine ⟨4, _, c, by omega, rfl, rfl, rfl, ?_⟩; rw [hhc.out, hhb.out, hha.out, HP.out]; rfl) | (refine ⟨5, _, c, by omega, rfl, rfl, rfl, ?_⟩; rw [hhc.out, hhb.out, hha.out, HP.out]; rfl) | (refine ⟨6, _, c, by omega, rfl, rfl, rfl, ?_⟩; rw [hhc.out, hhb.out, hha.out, HP.out]; rfl) | (refine ⟨7, _, c, by omega, rfl, rfl, rfl, ?_⟩; rw [hhc.out, hhb.out, hha.out, HP.out]; rfl) | (refine ⟨8, _, c, by omega, rfl, rfl, rfl, ?_⟩; rw [hhc.out, hhb.out, hha.out, HP.out]; rfl) | (refine ⟨9, _, c, by omega, rfl, rfl, rfl, ?_⟩; rw [hhc.out, hhb.out, hha.out, HP.out]; rfl) | (refine ⟨10, _, c, by omega, rfl, rfl, rfl, ?_⟩; rw [hhc.out, hhb.out, hha.out, HP.out]; rfl) | (refine ⟨11, _, c, by omega, rfl, rfl, rfl, ?_⟩; rw [hhc.out, hhb.out, hha.out, HP.out]; rfl) | (refine ⟨12, _, c, by omega, rfl, rfl, rfl, ?_⟩; rw [hhc.out, hhb.out, hha.out, HP.out]; rfl)
        case measure => simp [intOf]
theorem c_spec_l01Narrow_r (b r : Nat) (w : World) (h : floatToFloatBits .f64 b .f32 = some r) : Calls Try.prog 101 #[.float .f64 b] w fun e w' => e = .returned (.float .f32 r) ∧ w = w' := by
  have hcv : ∀ wx : World, (convert 34 22 (.float .f64 b)).run Try.prog wx = .ok (.float .f32 r) wx := fun wx => run_convert_float_float wx _ _ _ _ _ _ (by kernel_rfl) (by kernel_rfl) h
  clear h
  go_enter Try.func101, Try.ntmps101
  go_wp2
  go_ret
  exact ⟨rfl, rfl⟩
theorem c_spec_ExpR (x r0 : Nat) (w : World) (hx : Neg x) (h : ExpR x r0) : Calls Try.prog 60 #[.float .f32 x] w fun e w' => e = .returned (.float .f32 r0) ∧ ∃ n, w' = w.drewN n := by
  obtain ⟨y, y1, y2, y3, y4, y5⟩ := neg_wide hx
  have hcv : ∀ wx : World, (convert 22 34 (.float .f32 x)).run Try.prog wx = .ok (.float .f64 y) wx := fun wx => run_convert_float_float wx _ _ _ _ _ _ (by kernel_rfl) (by kernel_rfl) y1
  have Y3 := Lib.hid y3
  have Y4 := Lib.hid y4
  have Y2 := Lib.hid y2
  rcases h with ⟨h2, rfl⟩ | ⟨h2, ⟨mm, ee, hd, hb⟩, hs⟩
  · have Y5 := Lib.hid (y5.trans h2)
    have HZ := Lib.hid (show floatToFloatBits .f64 0 .f32 = some 0 by kernel_rfl)
    clear hx y1 y2 y3 y4 y5 h2
    go_enter Try.func60, Try.ntmps60
    go_wp2_with fail
    refine (c_spec_ExpWide_lt y _ Y3.out Y4.out Y5.out).mono ?_; rintro e w1 ⟨rfl, rfl⟩
    go_wp2_with fail
    refine (c_spec_l01Narrow_r 0 0 _ HZ.out).mono ?_; rintro e w1 ⟨rfl, rfl⟩
    go_wp2
    go_ret
    exact ⟨rfl, 0, rfl⟩
  · have Y5 := Lib.hid (y5.trans h2)
    obtain ⟨b, bm, be, hb1, hb2, hb3⟩ := expV_po hd hb
    have HB := Lib.hid hb1
    have HN := Lib.hid (show floatToFloatBits .f64 b .f32 = some r0 by rw [hb1] at hs; exact hs)
    clear hx y1 y2 y3 y4 y5 h2 hd hb hs hb1 hb2 hb3
    go_enter Try.func60, Try.ntmps60
    go_wp2_with fail
    refine (c_spec_ExpWide y _ Y3.out Y4.out Y5.out).mono ?_; rintro e w1 ⟨p, n, rfl, rfl, hp⟩
    obtain rfl := fv_is (hp.trans (by rw [Y2.out]; exact HB.out))
    clear hp
    go_wp2_with fail
    refine (c_spec_l01Narrow_r p r0 _ HN.out).mono ?_; rintro e w1 ⟨rfl, rfl⟩
    go_wp2
    go_ret
    exact ⟨rfl, _, rfl⟩
theorem c_spec_l02Number_f (x : Nat) (w : World) (h : isFin .f32 x = true) : Calls Try.prog 59 #[.float .f32 x] w fun e w' => e = .returned (.tuple #[.float .f32 x, .bool true]) ∧ ∃ n, w' = w.drewN n := by
  have H := Lib.hid h
  clear h
  go_enter Try.func59, Try.ntmps59
  go_wp2_with (go_at_call 62; refine (c_spec_l01Finite_b x _ H.out).mono ?_; rintro e w' ⟨rfl, q, rfl⟩)
  go_ret2
  exact ⟨rfl, _, rfl⟩
def decAtB (h s : Nat) (m t : Int) : Bool := decB h s m && inB m t 1000000
structure DecOk (h s : Nat) (m : Int) : Prop where
  fh : isFin .f32 h = true
  gt : (FloatKind.f32.format.order h 0 == some .gt) = true
  fs : isFin .f32 s = true
  m0 : 0 ≤ m
  m1 : m ≤ 1000000
theorem dec_ok {h s : Nat} {m : Int} (hd : decB h s m = true) : DecOk h s m := by
  unfold decB aboveB gt0 at hd
  simp only [Bool.and_eq_true, inB_isD] at hd
  exact ⟨hd.1.1, hd.1.2, hd.2.1, hd.2.2.1, hd.2.2.2⟩
theorem decAt_is {h s : Nat} {m t : Int} (hd : decAtB h s m t = true) : DecOk h s m ∧ m ≤ t ∧ t ≤ 1000000 := by
  unfold decAtB at hd
  rw [Bool.and_eq_true, inB_isD] at hd
  exact ⟨dec_ok hd.1, hd.2⟩
set_option maxHeartbeats 4000000 in
theorem c_impl_DecayAt_no (h s : Nat) (m t : Int) (w : World) (hr : decAtB h s m t = false) (hh : h < 4294967296) (hs : s < 4294967296) :
    Calls Try.prog 21 #[.agg #[.float .f32 h, .float .f32 s, .int .i64 m], .int .i64 t] w fun e w' => e = .returned (.tuple #[.float .f32 0, .bool false]) ∧ Ext w w' := by
  have HH := Lib.hid hh
  have HS := Lib.hid hs
  have BX := Lib.hid (Box.alloc w #[.float .f32 h, .float .f32 s, .int .i64 m] 26)
  have X0 := Lib.hid (Ext.alloc w (.cells #[.float .f32 h, .float .f32 s, .int .i64 m] 26))
  obtain ⟨b0, b1, b2⟩ := BX.out.three
  clear hh hs
  cases hd : decB h s m
  · have HD := Lib.hid hd
    clear hr hd
    go_enter Try.func21, Try.ntmps21
    go_wp2_with fail
    clear b0 b1 b2
    refine (c_impl_ValidDecay h s m _ HD.out HH.out HS.out).mono ?_; rintro e w1 ⟨rfl, x1⟩
    go_wp2
    go_ret2
    exact ⟨rfl, X0.out.trans x1⟩
  have HD := Lib.hid hd
  have hm0 := (dec_ok hd).m0
  have hi : inB m t 1000000 = false := by unfold decAtB at hr; rw [hd] at hr; exact hr
  cases ht : inB 0 t 1000000
  · have HT := Lib.hid ht
    clear hr hd hi ht
    go_enter Try.func21, Try.ntmps21
    go_wp2_with fail
    clear b0 b1 b2
    refine (c_impl_ValidDecay h s m _ HD.out HH.out HS.out).mono ?_; rintro e w1 ⟨rfl, x1⟩
    have B1 := Lib.hid (BX.out.on x1)
    have X1 := Lib.hid (X0.out.trans x1)
    obtain ⟨b0, b1, b2⟩ := B1.out.three
    clear x1
    go_wp2_with fail
    refine (c_impl_isTime_d t _ HT.out).mono ?_; rintro e w2 ⟨rfl, rfl⟩
    go_wp2
    go_ret2
    exact ⟨rfl, X1.out⟩
  have HT := Lib.hid ht
  have hlt : t < m := by
    have h1 := inB_isD.1 ht
    apply Classical.byContradiction
    intro hn
    rw [inB_isD.2 ⟨by omega, h1.2⟩] at hi; cases hi
  clear hr hd hi ht
  go_enter Try.func21, Try.ntmps21
  go_wp2_with fail
  clear b0 b1 b2
  refine (c_impl_ValidDecay h s m _ HD.out HH.out HS.out).mono ?_; rintro e w1 ⟨rfl, x1⟩
  have B1 := Lib.hid (BX.out.on x1)
  have X1 := Lib.hid (X0.out.trans x1)
  obtain ⟨b0, b1, b2⟩ := B1.out.three
  clear x1
  go_wp2_with fail
  refine (c_impl_isTime_d t _ HT.out).mono ?_; rintro e w2 ⟨rfl, rfl⟩
  go_wp2
  go_ret2
  exact ⟨rfl, X1.out⟩
set_option maxHeartbeats 4000000 in
theorem c_impl_DecayAt_yes (h s : Nat) (m t : Int) (l x ex v : Nat) (w : World) (hr : decAtB h s m t = true) (hR : DecR h s (t - m) l x ex v) (hh : h < 4294967296) (hs : s < 4294967296) :
    Calls Try.prog 21 #[.agg #[.float .f32 h, .float .f32 s, .int .i64 m], .int .i64 t] w fun e w' => e = .returned (.tuple #[.float .f32 v, .bool true]) ∧ Ext w w' := by
  have HH := Lib.hid hh
  have HS := Lib.hid hs
  have BX := Lib.hid (Box.alloc w #[.float .f32 h, .float .f32 s, .int .i64 m] 26)
  have X0 := Lib.hid (Ext.alloc w (.cells #[.float .f32 h, .float .f32 s, .int .i64 m] 26))
  obtain ⟨b0, b1, b2⟩ := BX.out.three
  obtain ⟨ok, t0, t1⟩ := decAt_is hr
  have m0 := ok.m0
  have HD := Lib.hid (show decB h s m = true by unfold decAtB at hr; rw [Bool.and_eq_true] at hr; exact hr.1)
  have HT := Lib.hid (show inB 0 t 1000000 = true from inB_isD.2 ⟨by omega, t1⟩)
  have hm1 : ∀ wx : World, (binOp .mul 22 (.float .f32 3207688728) (.float .f32 (floatOfInt .f32 (t - m)))).run Try.prog wx = .ok (.float .f32 l) wx := fun wx => by
    rw [run_fl_mul, flR_some hR.loss, flD_some hR.loss, World.drewN_zero]
  have hm2 : ∀ wx : World, (binOp .quo 22 (.float .f32 l) (.float .f32 h)).run Try.prog wx = .ok (.float .f32 x) wx := fun wx => by
    rw [run_fl_quo, flR_some hR.quo, flD_some hR.quo, World.drewN_zero]
  have hm3 : ∀ wx : World, (binOp .mul 22 (.float .f32 s) (.float .f32 ex)).run Try.prog wx = .ok (.float .f32 v) wx := fun wx => by
    rw [run_fl_mul, flR_some hR.mul, flD_some hR.mul, World.drewN_zero]
  have HN := Lib.hid hR.neg
  have HE := Lib.hid hR.exp
  have ht' : ¬ t < m := by omega
  have ht2 : decide (t < m) = false := decide_eq_false ht'
  clear hh hs hr hR ok
  go_enter Try.func21, Try.ntmps21
  go_wp2_with fail
  clear b0 b1 b2
  refine (c_impl_ValidDecay h s m _ HD.out HH.out HS.out).mono ?_; rintro e w1 ⟨rfl, x1⟩
  have B1 := Lib.hid (BX.out.on x1)
  have X1 := Lib.hid (X0.out.trans x1)
  obtain ⟨b0, b1, b2⟩ := B1.out.three
  clear x1
  go_wp2_with fail
  refine (c_impl_isTime_d t _ HT.out).mono ?_; rintro e w2 ⟨rfl, rfl⟩
  go_upto_region 4 with fail
  go_quiet (first | (go_at_call 61; exact Calls.quiet_of (c_impl_ExpR x ex _ HN.out HE.out)))
  go_wp2
  go_ret2
  exact ⟨rfl, by have := X1.out; (repeat (first | assumption | exact Ext.refl _ | (with_reducible refine Ext.stepS ?_ (by first | exact Nat.le_refl _ | (simp; done) | (simp; omega)) _) | (with_reducible refine Ext.stepN ?_ _) | (with_reducible refine Ext.stepD ?_) | (with_reducible refine Ext.stepA ?_ _)))⟩
set_option maxHeartbeats 4000000 in
theorem c_spec_DecayAt_no (h s : Nat) (m t : Int) (w : World) (hr : decAtB h s m t = false) :
    Calls Try.prog 20 #[.agg #[.float .f32 h, .float .f32 s, .int .i64 m], .int .i64 t] w fun e w' => e = .returned (.tuple #[.float .f32 0, .bool false]) ∧ Ext w w' := by
  have BX := Lib.hid (Box.alloc w #[.float .f32 h, .float .f32 s, .int .i64 m] 26)
  have X0 := Lib.hid (Ext.alloc w (.cells #[.float .f32 h, .float .f32 s, .int .i64 m] 26))
  obtain ⟨b0, b1, b2⟩ := BX.out.three
  cases hd : decB h s m
  · have HD := Lib.hid hd
    clear hr hd
    go_enter Try.func20, Try.ntmps20
    go_wp2_with fail
    clear b0 b1 b2
    refine (c_spec_l06Decay _ h s m _ HD.out BX.out).mono ?_; rintro e w1 ⟨rfl, x1⟩
    go_wp2
    go_ret2
    exact ⟨rfl, X0.out.trans x1⟩
  have HD := Lib.hid hd
  have HI := Lib.hid (show inB m t 1000000 = false by unfold decAtB at hr; rw [hd] at hr; exact hr)
  clear hr hd
  go_enter Try.func20, Try.ntmps20
  go_wp2_with fail
  clear b0 b1 b2
  refine (c_spec_l06Decay _ h s m _ HD.out BX.out).mono ?_; rintro e w1 ⟨rfl, x1⟩
  have B1 := Lib.hid (BX.out.on x1)
  have X1 := Lib.hid (X0.out.trans x1)
  obtain ⟨b0, b1, b2⟩ := B1.out.three
  clear x1
  go_wp2_with fail
  refine (c_l00In_d t m 1000000 _ HI.out).mono ?_; rintro e w2 ⟨rfl, rfl⟩
  go_wp2
  go_ret2
  exact ⟨rfl, X1.out⟩
set_option maxHeartbeats 4000000 in
theorem c_spec_DecayAt_yes (h s : Nat) (m t : Int) (l x ex v : Nat) (w : World) (hr : decAtB h s m t = true) (hR : DecR h s (t - m) l x ex v) :
    Calls Try.prog 20 #[.agg #[.float .f32 h, .float .f32 s, .int .i64 m], .int .i64 t] w fun e w' => e = .returned (.tuple #[.float .f32 v, .bool true]) ∧ Ext w w' := by
  have BX := Lib.hid (Box.alloc w #[.float .f32 h, .float .f32 s, .int .i64 m] 26)
  have X0 := Lib.hid (Ext.alloc w (.cells #[.float .f32 h, .float .f32 s, .int .i64 m] 26))
  obtain ⟨b0, b1, b2⟩ := BX.out.three
  obtain ⟨ok, t0, t1⟩ := decAt_is hr
  have m0 := ok.m0
  have HD := Lib.hid (show decB h s m = true by unfold decAtB at hr; rw [Bool.and_eq_true] at hr; exact hr.1)
  have HI := Lib.hid (show inB m t 1000000 = true from inB_isD.2 ⟨t0, t1⟩)
  have hm1 : ∀ wx : World, (binOp .mul 22 (.float .f32 3207688728) (.float .f32 (floatOfInt .f32 (t - m)))).run Try.prog wx = .ok (.float .f32 l) wx := fun wx => by
    rw [run_fl_mul, flR_some hR.loss, flD_some hR.loss, World.drewN_zero]
  have hm2 : ∀ wx : World, (binOp .quo 22 (.float .f32 l) (.float .f32 h)).run Try.prog wx = .ok (.float .f32 x) wx := fun wx => by
    rw [run_fl_quo, flR_some hR.quo, flD_some hR.quo, World.drewN_zero]
  have hm3 : ∀ wx : World, (binOp .mul 22 (.float .f32 s) (.float .f32 ex)).run Try.prog wx = .ok (.float .f32 v) wx := fun wx => by
    rw [run_fl_mul, flR_some hR.mul, flD_some hR.mul, World.drewN_zero]
  have HN := Lib.hid hR.neg
  have HE := Lib.hid hR.exp
  have HF := Lib.hid hR.fin
  clear hr hR ok
  go_enter Try.func20, Try.ntmps20
  go_wp2_with fail
  clear b0 b1 b2
  refine (c_spec_l06Decay _ h s m _ HD.out BX.out).mono ?_; rintro e w1 ⟨rfl, x1⟩
  have B1 := Lib.hid (BX.out.on x1)
  have X1 := Lib.hid (X0.out.trans x1)
  obtain ⟨b0, b1, b2⟩ := B1.out.three
  clear x1
  go_wp2_with fail
  refine (c_l00In_d t m 1000000 _ HI.out).mono ?_; rintro e w2 ⟨rfl, rfl⟩
  go_upto_region 4 with fail
  go_quiet (first | (go_at_call 60; exact Calls.quiet_of (c_spec_ExpR x ex _ HN.out HE.out)) | (go_at_call 59; exact Calls.quiet_of (c_spec_l02Number_f v _ HF.out)))
  go_wp2
  go_ret2
  exact ⟨rfl, by have := X1.out; (repeat (first | assumption | exact Ext.refl _ | (with_reducible refine Ext.stepS ?_ (by first | exact Nat.le_refl _ | (simp; done) | (simp; omega)) _) | (with_reducible refine Ext.stepN ?_ _) | (with_reducible refine Ext.stepD ?_) | (with_reducible refine Ext.stepA ?_ _)))⟩
end Go.Proofs.Ytmlnnnagbkknhab
