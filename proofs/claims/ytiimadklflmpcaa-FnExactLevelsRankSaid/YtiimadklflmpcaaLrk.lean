/- LevelsRank: both sides. -/
import Derived.Test.YtiimadklflmpcaaLsp
namespace Go.Proofs.Ytiimadklflmpcaa
open Go.ChangeShapes Go.WideShapes Go.ChangeAt Go.RowKit Go.Shelf
open Go.Proofs.Ytiimadklflmpcaa.Flo
set_option linter.unusedVariables false
/-- y is at most x, as floats -/
def leP (x y : Nat) : Bool := FloatKind.f32.format.order y x == some .lt || FloatKind.f32.format.order y x == some .eq
def lrV (R S : Int) (zss : List (List Nat)) (x : Nat) : Int × Bool := if (manyL R S zss && isFin .f32 x) = true then ((standTo (leP x) zss zss.length : Nat), true) else (0, false)
theorem StI.same {w : World} {m q g : Nat} {t : TypeId} {fv : Value} {p : Nat → Bool} {pre : List St} {W W1 : World} (hq : q < m) (hg : g < m) (h : StI w m q g t fv p pre W) (x : St) (X : Ext W W1) (hv : stSum p (pre ++ [x]) = stSum p pre) :
    KeepsFrom m W W1 ∧ KpG m g W W1 ∧ StI w m q g t fv p (pre ++ [x]) W1 :=
  ⟨keepsFrom_ext X, KpG.of_touch (Touch.of_ext X g (g + 1)) h.s, ⟨Nat.le_trans h.s X.size, Ext.some X h.f, by rw [hv]; exact h.r.of_block (Below.block X g h.r.lt), h.b.trans (Below.mono X (Below.size h.b))⟩⟩
set_option maxHeartbeats 4000000 in
theorem c_spec_l05Stand_le (g : Nat) (R S : Int) (x : Nat) (a : Option Addr) (n cap : Nat) (hs : Nat → Hd) (zss : List (List Nat)) (w : World) (hn : n ≤ 16) (hrl : ∀ i, i < n → (rowS zss i).length ≤ 64) (h : ReadsS flos w a n hs zss) (hx : Box w g 49 #[.int .i64 R, .int .i64 S, .slice a n cap]) :
    Calls Try.prog 99 #[.pointer (some ⟨g, 0, none⟩), .float .f32 x, .bool false] w fun e w' => e = .returned (.int .i64 ((standTo (leP x) zss n : Nat) : Int)) ∧ Ext w w' := by
  have HC := Lib.hid h.cells
  have H := Lib.hid h
  have BX := Lib.hid hx
  have HRL := Lib.hid hrl
  have HSB := Lib.hid (show ∀ h, h ≤ n → standTo (leP x) zss h ≤ 64 * 2 ^ h from fun h hh => standTo_le (leP x) zss h (fun i hi => hrl i (by omega)))
  have HPW := Lib.hid (show ∀ h, h ≤ n → 2 ^ h ≤ 65536 from fun h hh => Nat.pow_le_pow_right (n := 2) (by decide) (show h ≤ 16 by omega))
  have hnI : (n : Int) ≤ 16 := by omega
  clear h hx hrl
  obtain ⟨b0, b1, b2⟩ := BX.out.three
  go_enter Try.func99, Try.ntmps99
  go_wp2
  go_loopw [7, 8, 16] (fun s m i wr => ∃ h : Nat, h ≤ n ∧ i = .int .i64 h ∧ s = .int .i64 ((standTo (leP x) zss h : Nat) : Int) ∧ m = .int .i64 ((2 ^ h : Nat) : Int) ∧ Ext w wr) (fun _ _ i _ => n - (intOf i).toNat)
  case atStart => exact ⟨0, Nat.zero_le _, rfl, rfl, rfl, Ext.refl _⟩
  case round =>
    obtain ⟨h, hh, rfl, rfl, rfl, hx⟩ := hrel
    have HX := Lib.hid hx
    clear hx
    obtain ⟨A, hA⟩ : ∃ A, standTo (leP x) zss h = A := ⟨_, rfl⟩
    obtain ⟨M, hM⟩ : ∃ M : Nat, 2 ^ h = M := ⟨_, rfl⟩
    have HAA := Lib.hid hA
    have HMM := Lib.hid hM
    have hMb : M ≤ 65536 := by rw [← hM]; exact HPW.out h hh
    have hAb : A ≤ 4194304 := by have h1 := HSB.out h hh; rw [hA, hM] at h1; omega
    rw [hA, hM]
    clear hA hM
    by_cases hlt : h < n
    · have hltI : (h : Int) < (n : Int) := by omega
      rcases HC.out with h0 | ⟨b, off, rfl, hc⟩
      · omega
      have cz := HX.out.some (hc h hlt)
      obtain ⟨_, _, d2⟩ := (BX.out.on HX.out).three
      obtain ⟨d, hd⟩ : ∃ d, (rowS zss h).length = d := ⟨_, rfl⟩
      have HD := Lib.hid hd
      have hdb : d ≤ 64 := by rw [← hd]; exact HRL.out h hlt
      rw [hd] at cz
      have HCZ := Lib.hid (hc h hlt)
      clear hc hd
      go_wp2
      go_loopw [7, 27] (fun s i wr => ∃ k : Nat, k ≤ d ∧ i = .int .i64 k ∧ s = .int .i64 ((A + M * cntTo (leP x) (rowS zss h) k : Nat) : Int) ∧ Ext w wr) (fun _ i _ => d - (intOf i).toNat)
      case atStart => exact ⟨0, Nat.zero_le _, rfl, by rw [show cntTo (leP x) (rowS zss h) 0 = 0 from rfl, Nat.mul_zero]; rfl, HX.out⟩
      case round =>
        obtain ⟨k, hk, rfl, rfl, hx⟩ := hrel
        have HX2 := Lib.hid hx
        clear hx
        obtain ⟨s, hs⟩ : ∃ s, A + M * cntTo (leP x) (rowS zss h) k = s := ⟨_, rfl⟩
        have HS := Lib.hid hs
        have hMk : M * cntTo (leP x) (rowS zss h) k ≤ 65536 * 64 := Nat.mul_le_mul hMb (by have := cntTo_le (leP x) (rowS zss h) k; omega)
        have hsb : s ≤ 8388608 := by omega
        rw [hs]
        clear hs hMk
        by_cases hlt2 : k < d
        · have hlt2I : (k : Int) < (d : Int) := by omega
          obtain ⟨y, hy⟩ : ∃ y, (rowS zss h)[k]?.getD 0 = y := ⟨_, rfl⟩
          have hrd := ((H.out.r h hlt).on HX2.out).flo.2
          rw [HD.out] at hrd
          rcases hrd with h1 | ⟨b2, off2, ha2, hc2⟩
          · omega
          have cy := hc2 k hlt2
          rw [hy] at cy
          have cz2 := HX2.out.some HCZ.out
          rw [HD.out, ha2] at cz2
          obtain ⟨_, _, e2⟩ := (BX.out.on HX2.out).three
          cases kl : (FloatKind.f32.format.order y x == some Ordering.lt) <;> cases ke : (FloatKind.f32.format.order y x == some Ordering.eq)
          case false.false =>
            have HN := Lib.hid (show A + M * cntTo (leP x) (rowS zss h) (k + 1) = s by
              show A + M * (cntTo (leP x) (rowS zss h) k + (if leP x ((rowS zss h)[k]?.getD 0) = true then 1 else 0)) = s
              rw [hy, show leP x y = false by unfold leP; rw [kl, ke]; rfl]; exact HS.out)
            clear hc2 hy
            go_wp2
            go_roundw
            case rel => exact ⟨k + 1, by omega, by go_num, by rw [HN.out], HX2.out⟩
            case measure => simp [intOf]; omega
          all_goals
            have HN := Lib.hid (show A + M * cntTo (leP x) (rowS zss h) (k + 1) = s + M by
              show A + M * (cntTo (leP x) (rowS zss h) k + (if leP x ((rowS zss h)[k]?.getD 0) = true then 1 else 0)) = s + M
              rw [hy, show leP x y = true by unfold leP; rw [kl, ke]; rfl, if_pos rfl, Nat.mul_succ, ← Nat.add_assoc, HS.out])
            clear hc2 hy
            go_wp2
            go_roundw
            case rel => exact ⟨k + 1, by omega, by go_num, by rw [HN.out]; go_num, HX2.out⟩
            case measure => simp [intOf]; omega
        · have hkd : k = d := by omega
          subst hkd
          have hlt2' : ¬ (k : Int) < (k : Int) := by omega
          have HN := Lib.hid (show standTo (leP x) zss (h + 1) = s by rw [standTo_succ, HAA.out, HMM.out, HD.out, HS.out])
          have HP := Lib.hid (show 2 ^ (h + 1) = M * 2 by rw [Nat.pow_succ, HMM.out])
          go_wp2
          go_roundw
          case rel => exact ⟨h + 1, by omega, by go_num, by rw [HN.out], by rw [HP.out]; go_num, HX2.out⟩
          case measure => simp [intOf]; omega
    · have hhn : h = n := by omega
      subst hhn
      have hlt' : ¬ (h : Int) < (h : Int) := by omega
      go_wp2
      go_ret
      exact ⟨by rw [HAA.out]; rfl, HX.out⟩
set_option maxHeartbeats 1000000 in
theorem c_spec_LevelsRank (R S : Int) (a : Option Addr) (n cap : Nat) (hs : Nat → Hd) (zss : List (List Nat)) (x : Nat) (w : World) {rz : Int} {rb : Bool} (hv : lrV R S zss x = (rz, rb)) (hl : n + totS zss n ≤ 1048576) (hb : BitsS zss) (hx : x < 4294967296) (h : ReadsS flos w a n hs zss) :
    Calls Try.prog 43 #[.agg #[.int .i64 R, .int .i64 S, .slice a n cap], .float .f32 x] w fun e w' => e = .returned (.tuple #[.int .i64 rz, .bool rb]) ∧ Ext w w' := by
  have hz := h.len
  subst hz
  have BX := Lib.hid (Box.alloc w #[.int .i64 R, .int .i64 S, .slice a zss.length cap] 49)
  have X0 := Lib.hid (Ext.alloc w (.cells #[.int .i64 R, .int .i64 S, .slice a zss.length cap] 49))
  have H := Lib.hid (h.on X0.out)
  clear h hb
  cases hm : manyL R S zss
  · have hv2 : (0, false) = (rz, rb) := by rw [← hv]; unfold lrV; rw [hm]; rfl
    cases hv2
    have HM := Lib.hid hm
    clear hm hv
    go_enter Try.func43, Try.ntmps43
    go_wp2_with fail
    refine (c_spec_l05Many _ R S a _ cap hs zss _ HM.out hl H.out BX.out).mono ?_; rintro e u1 ⟨rfl, x'⟩
    have X := Lib.hid (X0.out.trans x')
    clear x'
    go_wp2
    go_ret2
    exact ⟨rfl, X.out⟩
  · have HM := Lib.hid hm
    have LO := Lib.hid (lev_ok (R := R) (S := S) (zss := zss) (by have h1 := hm; unfold manyL at h1; rw [Bool.and_eq_true] at h1; exact h1.1))
    cases hf : isFin .f32 x
    · have hv2 : (0, false) = (rz, rb) := by rw [← hv]; unfold lrV; rw [hm, hf]; rfl
      cases hv2
      have HF := Lib.hid hf
      clear hm hv hf
      go_enter Try.func43, Try.ntmps43
      go_wp2_with fail
      refine (c_spec_l05Many _ R S a _ cap hs zss _ HM.out hl H.out BX.out).mono ?_; rintro e u1 ⟨rfl, x'⟩
      have X := Lib.hid (X0.out.trans x')
      clear x'
      go_wp2_with (go_at_call 102; refine (c_spec_l01Finite_b x _ HF.out).mono ?_; rintro e w' ⟨rfl, q', rfl⟩)
      go_ret2
      exact ⟨rfl, X.out.trans (Ext.drewN _ _)⟩
    · have hv2 : (((standTo (leP x) zss zss.length : Nat) : Int), true) = (rz, rb) := by rw [← hv]; unfold lrV; rw [hm, hf]; rfl
      cases hv2
      have HF := Lib.hid hf
      clear hm hv hf
      go_enter Try.func43, Try.ntmps43
      go_wp2_with fail
      refine (c_spec_l05Many _ R S a _ cap hs zss _ HM.out hl H.out BX.out).mono ?_; rintro e u1 ⟨rfl, x'⟩
      have X := Lib.hid x'
      clear x'
      go_wp2_with (go_at_call 102; refine (c_spec_l01Finite_b x _ HF.out).mono ?_; rintro e w' ⟨rfl, q', rfl⟩)
      refine (c_spec_l05Stand_le _ R S x a _ cap hs zss _ LO.out.n LO.out.r (H.out.on (X.out.trans (Ext.drewN _ _))) (BX.out.on (X.out.trans (Ext.drewN _ _)))).mono ?_; rintro e u2 ⟨rfl, x'⟩
      have X2 := Lib.hid (((X0.out.trans X.out).trans (Ext.drewN _ _)).trans x')
      clear x'
      go_wp2
      go_ret2
      exact ⟨rfl, X2.out⟩
end Go.Proofs.Ytiimadklflmpcaa
