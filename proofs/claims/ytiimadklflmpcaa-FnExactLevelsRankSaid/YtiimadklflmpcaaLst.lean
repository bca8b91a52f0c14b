/- Levels: for how many numbers they stand: the other side (l05Stand, l05Many, LevelsCount). -/
import Derived.Test.YtiimadklflmpcaaLva
namespace Go.Proofs.Ytiimadklflmpcaa
open Go.ChangeShapes Go.WideShapes Go.ChangeAt Go.RowKit
open Go.Proofs.Ytiimadklflmpcaa.Flo
set_option linter.unusedVariables false
/-- how many of the first k are chosen -/
def cntTo (p : Nat → Bool) (xs : List Nat) : Nat → Nat
  | 0 => 0
  | k + 1 => cntTo p xs k + (if p (xs[k]?.getD 0) = true then 1 else 0)
/-- for how many numbers those of the first h lists stand that are chosen -/
def standTo (p : Nat → Bool) (zss : List (List Nat)) : Nat → Nat
  | 0 => 0
  | h + 1 => standTo p zss h + 2 ^ h * cntTo p (rowS zss h) (rowS zss h).length
def yesP : Nat → Bool := fun _ => true
theorem cntTo_le (p : Nat → Bool) (xs : List Nat) : ∀ k, cntTo p xs k ≤ k
  | 0 => Nat.le_refl _
  | k + 1 => by
    have := cntTo_le p xs k
    show cntTo p xs k + _ ≤ k + 1
    split <;> omega
theorem cntTo_yes (xs : List Nat) : ∀ k, cntTo yesP xs k = k
  | 0 => rfl
  | k + 1 => by show cntTo yesP xs k + 1 = k + 1; rw [cntTo_yes xs k]
theorem standTo_succ (p : Nat → Bool) (zss : List (List Nat)) (h : Nat) : standTo p zss (h + 1) = standTo p zss h + 2 ^ h * cntTo p (rowS zss h) (rowS zss h).length := rfl
theorem standTo_yes (zss : List (List Nat)) (h : Nat) : standTo yesP zss (h + 1) = standTo yesP zss h + 2 ^ h * (rowS zss h).length := by rw [standTo_succ, cntTo_yes]
theorem standTo_le (p : Nat → Bool) (zss : List (List Nat)) : ∀ h, (∀ i, i < h → (rowS zss i).length ≤ 64) → standTo p zss h ≤ 64 * 2 ^ h
  | 0, _ => by show (0 : Nat) ≤ _; exact Nat.zero_le _
  | h + 1, hr => by
    have h1 := standTo_le p zss h (fun i hi => hr i (by omega))
    have h2 := Nat.le_trans (cntTo_le p (rowS zss h) (rowS zss h).length) (hr h (Nat.lt_succ_self _))
    have h3 := Nat.mul_le_mul_left (2 ^ h) h2
    rw [standTo_succ, Nat.pow_succ]; omega
def manyL (R S : Int) (zss : List (List Nat)) : Bool := levB R S zss && decide (standTo yesP zss zss.length ≤ 2000000)
def lcV (R S : Int) (zss : List (List Nat)) : Int × Bool := if manyL R S zss then ((standTo yesP zss zss.length : Nat), true) else (0, false)
structure LevOk (R S : Int) (zss : List (List Nat)) : Prop where
  n : zss.length ≤ 16
  r : ∀ i, i < zss.length → (rowS zss i).length ≤ 64
theorem lev_ok {R S : Int} {zss : List (List Nat)} (h : levB R S zss = true) : LevOk R S zss := by
  unfold levB at h
  rw [Bool.and_eq_true] at h
  have h1 := h.1
  unfold levHead at h1
  simp only [Bool.and_eq_true, decide_eq_true_eq] at h1
  refine ⟨h1.2.2.2.2.2, fun i hi => ?_⟩
  have h2 := allTo_at h.2 hi
  unfold levRow at h2
  rw [Bool.and_eq_true, decide_eq_true_eq] at h2
  have := h1.2.1
  omega
set_option maxHeartbeats 4000000 in
theorem c_spec_l05Stand_all (g : Nat) (R S : Int) (x : Nat) (a : Option Addr) (n cap : Nat) (hs : Nat → Hd) (zss : List (List Nat)) (w : World) (hn : n ≤ 16) (hrl : ∀ i, i < n → (rowS zss i).length ≤ 64) (h : ReadsS flos w a n hs zss) (hx : Box w g 49 #[.int .i64 R, .int .i64 S, .slice a n cap]) :
    Calls Try.prog 99 #[.pointer (some ⟨g, 0, none⟩), .float .f32 x, .bool true] w fun e w' => e = .returned (.int .i64 ((standTo yesP zss n : Nat) : Int)) ∧ Ext w w' := by
  have HC := Lib.hid h.cells
  have BX := Lib.hid hx
  have HRL := Lib.hid hrl
  have HSB := Lib.hid (show ∀ h, h ≤ n → standTo yesP zss h ≤ 64 * 2 ^ h from fun h hh => standTo_le yesP zss h (fun i hi => hrl i (by omega)))
  have HPW := Lib.hid (show ∀ h, h ≤ n → 2 ^ h ≤ 65536 from fun h hh => Nat.pow_le_pow_right (n := 2) (by decide) (show h ≤ 16 by omega))
  have hnI : (n : Int) ≤ 16 := by omega
  clear h hx hrl
  obtain ⟨b0, b1, b2⟩ := BX.out.three
  go_enter Try.func99, Try.ntmps99
  go_wp2
  go_loopw [7, 8, 16] (fun s m i wr => ∃ h : Nat, h ≤ n ∧ i = .int .i64 h ∧ s = .int .i64 ((standTo yesP zss h : Nat) : Int) ∧ m = .int .i64 ((2 ^ h : Nat) : Int) ∧ Ext w wr) (fun _ _ i _ => n - (intOf i).toNat)
  case atStart => exact ⟨0, Nat.zero_le _, rfl, rfl, rfl, Ext.refl _⟩
  case round =>
    obtain ⟨h, hh, rfl, rfl, rfl, hx⟩ := hrel
    have HX := Lib.hid hx
    clear hx
    obtain ⟨A, hA⟩ : ∃ A, standTo yesP zss h = A := ⟨_, rfl⟩
    obtain ⟨M, hM⟩ : ∃ M : Nat, 2 ^ h = M := ⟨_, rfl⟩
    have HAA := Lib.hid hA
    have HMM := Lib.hid hM
    have hMb : M ≤ 65536 := by rw [← hM]; exact HPW.out h hh
    have hAb : A ≤ 4194304 := by have h1 := HSB.out h hh; rw [hA, hM] at h1; omega
    rw [hA, hM]
    clear hA hM
    by_cases hlt : h < n
    · have hltI : (h : Int) < (n : Int) := by omega
      rcases HC.out with h0 | ⟨b, off, rfl, hc⟩
      · omega
      have cz := HX.out.some (hc h hlt)
      obtain ⟨_, _, d2⟩ := (BX.out.on HX.out).three
      obtain ⟨d, hd⟩ : ∃ d, (rowS zss h).length = d := ⟨_, rfl⟩
      have HD := Lib.hid hd
      have hdb : d ≤ 64 := by rw [← hd]; exact HRL.out h hlt
      rw [hd] at cz
      clear hc hd
      go_wp2
      go_loopw [7, 27] (fun s i wr => ∃ k : Nat, k ≤ d ∧ i = .int .i64 k ∧ s = .int .i64 ((A + M * k : Nat) : Int) ∧ Ext w wr) (fun _ i _ => d - (intOf i).toNat)
      case atStart => exact ⟨0, Nat.zero_le _, rfl, by rw [Nat.mul_zero]; rfl, HX.out⟩
      case round =>
        obtain ⟨k, hk, rfl, rfl, hx⟩ := hrel
        have HX2 := Lib.hid hx
        clear hx
        obtain ⟨s, hs⟩ : ∃ s, A + M * k = s := ⟨_, rfl⟩
        have HS := Lib.hid hs
        have hMk : M * k ≤ 65536 * 64 := Nat.mul_le_mul hMb (by omega)
        have hsb : s ≤ 8388608 := by omega
        rw [hs]
        clear hs hMk
        by_cases hlt2 : k < d
        · have hlt2I : (k : Int) < (d : Int) := by omega
          have HN := Lib.hid (show A + M * (k + 1) = s + M by rw [Nat.mul_succ, ← Nat.add_assoc, HS.out])
          go_wp2
          go_roundw
          case rel => exact ⟨k + 1, by omega, by go_num, by rw [HN.out]; go_num, HX2.out⟩
          case measure => simp [intOf]; omega
        · have hkd : k = d := by omega
          subst hkd
          have hlt2' : ¬ (k : Int) < (k : Int) := by omega
          have HN := Lib.hid (show standTo yesP zss (h + 1) = s by rw [standTo_yes, HAA.out, HMM.out, HD.out, HS.out])
          have HP := Lib.hid (show 2 ^ (h + 1) = M * 2 by rw [Nat.pow_succ, HMM.out])
          go_wp2
          go_roundw
          case rel => exact ⟨h + 1, by omega, by go_num, by rw [HN.out], by rw [HP.out]; go_num, HX2.out⟩
          case measure => simp [intOf]; omega
    · have hhn : h = n := by omega
      subst hhn
      have hlt' : ¬ (h : Int) < (h : Int) := by omega
      go_wp2
      go_ret
      exact ⟨by rw [HAA.out]; rfl, HX.out⟩
set_option maxHeartbeats 1000000 in
theorem c_spec_l05Many (g : Nat) (R S : Int) (a : Option Addr) (n cap : Nat) (hs : Nat → Hd) (zss : List (List Nat)) (w : World) {r : Bool} (hr : manyL R S zss = r) (hl : n + totS zss n ≤ 1048576) (h : ReadsS flos w a n hs zss) (hx : Box w g 49 #[.int .i64 R, .int .i64 S, .slice a n cap]) :
    Calls Try.prog 98 #[.pointer (some ⟨g, 0, none⟩)] w fun e w' => e = .returned (.bool r) ∧ Ext w w' := by
  have hz := h.len
  subst hz
  have H := Lib.hid h
  have BX := Lib.hid hx
  clear h hx
  cases hv : levB R S zss
  · have HV := Lib.hid hv
    have HR := Lib.hid (show r = false by rw [← hr]; unfold manyL; rw [hv]; rfl)
    clear hv hr
    go_enter Try.func98, Try.ntmps98
    go_wp2_with fail
    refine (c_spec_l05Levels g R S a _ cap hs zss _ HV.out hl H.out BX.out).mono ?_; rintro e u1 ⟨rfl, x'⟩
    have X := Lib.hid x'
    clear x'
    go_wp2
    go_ret
    exact ⟨by rw [HR.out]; rfl, X.out⟩
  · have HV := Lib.hid hv
    have LO := Lib.hid (lev_ok hv)
    have hsb := standTo_le yesP zss zss.length LO.out.r
    have hpw : 2 ^ zss.length ≤ 65536 := Nat.pow_le_pow_right (n := 2) (by decide) (show zss.length ≤ 16 from LO.out.n)
    obtain ⟨A, hA⟩ : ∃ A, standTo yesP zss zss.length = A := ⟨_, rfl⟩
    have HA := Lib.hid hA
    rw [hA] at hsb
    have hAb : A ≤ 4194304 := by omega
    have HR := Lib.hid (show r = decide ((A : Int) ≤ 2000000) by rw [← hr]; unfold manyL; rw [hv, hA, Bool.true_and]; exact decide_eq_decide.2 (by omega))
    clear hv hr hA hsb hpw
    go_enter Try.func98, Try.ntmps98
    go_wp2_with fail
    refine (c_spec_l05Levels g R S a _ cap hs zss _ HV.out hl H.out BX.out).mono ?_; rintro e u1 ⟨rfl, x'⟩
    have X := Lib.hid x'
    clear x'
    go_wp2_with fail
    refine (c_spec_l05Stand_all g R S 0 a _ cap hs zss _ LO.out.n LO.out.r (H.out.on X.out) (BX.out.on X.out)).mono ?_; rw [HA.out]; rintro e u2 ⟨rfl, x'⟩
    have X2 := Lib.hid (X.out.trans x')
    clear x'
    go_wp2
    go_ret
    exact ⟨by rw [HR.out]; rfl, X2.out⟩
set_option maxHeartbeats 1000000 in
theorem c_spec_LevelsCount (R S : Int) (a : Option Addr) (n cap : Nat) (hs : Nat → Hd) (zss : List (List Nat)) (w : World) {rz : Int} {rb : Bool} (hv : lcV R S zss = (rz, rb)) (hl : n + totS zss n ≤ 1048576) (hb : BitsS zss) (h : ReadsS flos w a n hs zss) :
    Calls Try.prog 41 #[.agg #[.int .i64 R, .int .i64 S, .slice a n cap]] w fun e w' => e = .returned (.tuple #[.int .i64 rz, .bool rb]) ∧ Ext w w' := by
  have hz := h.len
  subst hz
  have BX := Lib.hid (Box.alloc w #[.int .i64 R, .int .i64 S, .slice a zss.length cap] 49)
  have X0 := Lib.hid (Ext.alloc w (.cells #[.int .i64 R, .int .i64 S, .slice a zss.length cap] 49))
  have H := Lib.hid (h.on X0.out)
  clear h hb
  cases hm : manyL R S zss
  · have hv2 : (0, false) = (rz, rb) := by rw [← hv]; unfold lcV; rw [hm]; rfl
    cases hv2
    have HM := Lib.hid hm
    clear hm hv
    go_enter Try.func41, Try.ntmps41
    go_wp2_with fail
    refine (c_spec_l05Many _ R S a _ cap hs zss _ HM.out hl H.out BX.out).mono ?_; rintro e u1 ⟨rfl, x'⟩
    have X := Lib.hid (X0.out.trans x')
    clear x'
    go_wp2
    go_ret2
    exact ⟨rfl, X.out⟩
  · have hv2 : (((standTo yesP zss zss.length : Nat) : Int), true) = (rz, rb) := by rw [← hv]; unfold lcV; rw [hm]; rfl
    cases hv2
    have HM := Lib.hid hm
    have LO := Lib.hid (lev_ok (R := R) (S := S) (zss := zss) (by have h1 := hm; unfold manyL at h1; rw [Bool.and_eq_true] at h1; exact h1.1))
    clear hm hv
    go_enter Try.func41, Try.ntmps41
    go_wp2_with fail
    refine (c_spec_l05Many _ R S a _ cap hs zss _ HM.out hl H.out BX.out).mono ?_; rintro e u1 ⟨rfl, x'⟩
    have X := Lib.hid x'
    clear x'
    go_wp2_with fail
    refine (c_spec_l05Stand_all _ R S 0 a _ cap hs zss _ LO.out.n LO.out.r (H.out.on X.out) (BX.out.on X.out)).mono ?_; rintro e u2 ⟨rfl, x'⟩
    have X2 := Lib.hid ((X0.out.trans X.out).trans x')
    clear x'
    go_wp2
    go_ret2
    exact ⟨rfl, X2.out⟩
end Go.Proofs.Ytiimadklflmpcaa
