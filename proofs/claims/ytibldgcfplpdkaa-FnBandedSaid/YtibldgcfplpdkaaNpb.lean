/- NearPairs: the program's function. -/
import Derived.Test.YtibldgcfplpdkaaNpa
namespace Go.Proofs.Ytibldgcfplpdkaa
open Go.ChangeShapes Go.WideShapes Go.ChangeAt Go.RowKit
open Go.Proofs.Ytibldgcfplpdkaa.Flo
set_option linter.unusedVariables false
def ltZ (far : Nat) : Bool := FloatKind.f32.format.order far 0 == some .lt
def nearOk (zss : List (List Nat)) (far : Nat) : Bool := ptsf zss && (isFin .f32 far && !ltZ far)
def npP (zss : List (List Nat)) (far : Nat) (i k : Nat) : Bool := leV (normR (diffL (rowS zss i) (rowS zss k))).1 (fv .f32 far)
def npQ (zss : List (List Nat)) (i k : Nat) : Bool := (normR (diffL (rowS zss i) (rowS zss k))).2
def nearR (zss : List (List Nat)) (far : Nat) : List Int × Bool := if nearOk zss far then pairsR (npP zss far) (npQ zss) zss.length else ([], false)
theorem nearR_no {zss : List (List Nat)} {far : Nat} (h : nearOk zss far = false) : nearR zss far = ([], false) := if_neg (by rw [h]; decide)
theorem nearR_yes {zss : List (List Nat)} {far : Nat} (h : nearOk zss far = true) : nearR zss far = pairsR (npP zss far) (npQ zss) zss.length := if_pos h
theorem nearOk_1 {zss : List (List Nat)} {far : Nat} (h : ptsf zss = false) : nearOk zss far = false := by unfold nearOk; rw [h]; rfl
theorem nearOk_2 {zss : List (List Nat)} {far : Nat} (h : isFin .f32 far = false) : nearOk zss far = false := by unfold nearOk; rw [h]; simp
theorem nearOk_3 {zss : List (List Nat)} {far : Nat} (h : ltZ far = true) : nearOk zss far = false := by unfold nearOk; rw [h]; simp
theorem nearOk_y {zss : List (List Nat)} {far : Nat} (h1 : ptsf zss = true) (h2 : isFin .f32 far = true) (h3 : ltZ far = false) : nearOk zss far = true := by unfold nearOk; rw [h1, h2, h3]; rfl
theorem nearR_le {zss : List (List Nat)} {far : Nat} {rz : List Int} {rb : Bool} (h : nearR zss far = (rz, rb)) : rz.length ≤ 1048576 := by
  cases ho : nearOk zss far
  · rw [nearR_no ho] at h; cases h; exact Nat.zero_le _
  · rw [nearR_yes ho] at h
    unfold nearOk at ho
    rw [Bool.and_eq_true] at ho
    exact pairsR_le (ptsf_is ho.1).2.1 h
theorem RetSB.onf {t : TypeId} {n : Nat} {vs : List Value} {b : Bool} {w u : World} {e : Ending} {w' : World} (x : Ext w u) (h : RetSB t n vs b u e w') : RetSB t n vs b w e w' := by
  obtain ⟨a, c, he, o, x2⟩ := h
  exact ⟨a, c, he, o.wide x.size (Nat.le_refl _), x.trans x2⟩
theorem vec_fin {zs : List Nat} (h : vecB zs = true) : zs.length ≤ 32 ∧ finB zs = true := by
  unfold vecB at h; simp only [Bool.and_eq_true, decide_eq_true_eq] at h; exact ⟨h.2.1, h.2.2⟩
set_option maxRecDepth 100000 in
set_option maxHeartbeats 4000000 in
theorem c_impl_NearPairs (a : Option Addr) (n cap : Nat) (hs : Nat → Hd) (zss : List (List Nat)) (far : Nat) (w : World) {rz : List Int} {rb : Bool} (hv : nearR zss far = (rz, rb)) (hl : n + totS zss n ≤ 1048576) (h : ReadsS flos w a n hs zss) (hb : BitsS zss) (hfar : far < 4294967296) :
    Calls Try.prog 33 #[.slice a n cap, .float .f32 far] w (RetSB 2 rz.length (ints rz) rb w) := by
  have hz := h.len
  subst hz
  have X0 := Lib.hid (show Ext w ((w.alloc (.cells #[.slice a zss.length cap] 44)).alloc (.cells #[.float .f32 far] 37)) by (repeat (first | assumption | exact Ext.refl _ | (with_reducible refine Ext.stepS ?_ (by first | exact Nat.le_refl _ | (simp; done) | (simp; omega)) _) | (with_reducible refine Ext.stepN ?_ _) | (with_reducible refine Ext.stepD ?_) | (with_reducible refine Ext.stepA ?_ _))))
  have BL := Lib.hid ((Box.alloc w #[.slice a zss.length cap] 44).past (.cells #[.float .f32 far] 37))
  have BW := Lib.hid (Box.alloc_at (w.alloc (.cells #[.slice a zss.length cap] 44)) #[.float .f32 far] 37 (b := w.heap.size + 1) (by simp))
  have H := Lib.hid h
  have HL := Lib.hid hl
  have HBT := Lib.hid hb
  have HFA := Lib.hid hfar
  cases hp : ptsf zss
  · rw [nearR_no (nearOk_1 hp)] at hv
    cases hv
    have HP := Lib.hid hp
    clear hp h hl hb
    go_enter Try.func33, Try.ntmps33
    go_wp2_with fail
    refine (c_arePointsf a _ cap hs zss _ HP.out HL.out (H.out.on X0.out) HBT.out).mono ?_; rintro e u1 ⟨rfl, x1⟩
    have X1 := Lib.hid (X0.out.trans x1)
    clear x1
    go_wp2
    go_ret2
    exact (RetSB.nil _ _).onf X1.out
  cases hf : isFin .f32 far
  · rw [nearR_no (nearOk_2 hf)] at hv
    cases hv
    have HP := Lib.hid hp
    have HF := Lib.hid hf
    clear hp hf h hl hb
    go_enter Try.func33, Try.ntmps33
    go_wp2_with fail
    refine (c_arePointsf a _ cap hs zss _ HP.out HL.out (H.out.on X0.out) HBT.out).mono ?_; rintro e u1 ⟨rfl, x1⟩
    have X1 := Lib.hid (X0.out.trans x1)
    have k1 := (BW.out.on x1).cell 0
    clear x1
    go_wp2_with fail
    refine (c_impl_IsFinite_b far _ HFA.out HF.out).mono ?_; rintro e u2 ⟨rfl, q, hq⟩
    have X2 := Lib.hid (show Ext w u2 by rw [hq]; exact X1.out.trans (Ext.drewN _ _))
    clear hq k1
    go_wp2
    go_ret2
    exact (RetSB.nil _ _).onf X2.out
  cases ht : ltZ far
  case true =>
    rw [nearR_no (nearOk_3 ht)] at hv
    cases hv
    have HP := Lib.hid hp
    have HF := Lib.hid hf
    have hlt : (FloatKind.f32.format.order far 0 == some .lt) = true := ht
    clear hp hf h hl hb ht
    go_enter Try.func33, Try.ntmps33
    go_wp2_with fail
    refine (c_arePointsf a _ cap hs zss _ HP.out HL.out (H.out.on X0.out) HBT.out).mono ?_; rintro e u1 ⟨rfl, x1⟩
    have X1 := Lib.hid (X0.out.trans x1)
    have BW1 := Lib.hid (BW.out.on x1)
    have k1 := BW1.out.cell 0
    clear x1
    go_wp2_with fail
    refine (c_impl_IsFinite_b far _ HFA.out HF.out).mono ?_; rintro e u2 ⟨rfl, q, hq⟩
    have x2 : Ext u1 u2 := by rw [hq]; exact Ext.drewN _ _
    have X2 := Lib.hid (X1.out.trans x2)
    have k2 := (BW1.out.on x2).cell 0
    clear hq k1 x2
    go_wp2
    go_ret2
    exact (RetSB.nil _ _).onf X2.out
  case false =>
    rw [nearR_yes (nearOk_y hp hf ht)] at hv
    have HV := Lib.hid hv
    obtain ⟨h1, h2, h3⟩ := ptsf_is hp
    obtain ⟨b, off, rfl⟩ : ∃ b off, a = some ⟨b, off, none⟩ := by
      rcases h.o.2 with h0 | ⟨b, off, h0, _⟩
      · omega
      · exact ⟨b, off, h0⟩
    have HC := Lib.hid (show ∀ i, i < zss.length → w.cell? ⟨b, off + i, none⟩ = some (.slice (hs i).a (rowS zss i).length (hs i).c) from fun i hi => by
      rcases h.cells with h0 | ⟨b', off', he, hc⟩
      · omega
      · cases he; exact hc i hi)
    obtain ⟨L, hL⟩ : ∃ L, (rowS zss 0).length = L := ⟨_, rfl⟩
    have HN32 := Lib.hid h2
    have HL32 := Lib.hid (show L ≤ 32 by rw [← hL]; exact (vec_fin (h3 0 (by omega)).1).1)
    have HLE := Lib.hid (show ∀ i, i < zss.length → (rowS zss i).length = L ∧ finB (rowS zss i) = true from fun i hi => ⟨by rw [(h3 i hi).2]; exact hL, (vec_fin (h3 i hi).1).2⟩)
    have HP := Lib.hid hp
    have HF := Lib.hid hf
    have hlt : (FloatKind.f32.format.order far 0 == some .lt) = false := ht
    clear hp hf h hl hb ht hv h1 h2 h3 hL
    go_enter Try.func33, Try.ntmps33
    go_wp2_with fail
    refine (c_arePointsf _ _ cap hs zss _ HP.out HL.out (H.out.on X0.out) HBT.out).mono ?_; rintro e u1 ⟨rfl, x1⟩
    have X1 := Lib.hid (X0.out.trans x1)
    have BW1 := Lib.hid (BW.out.on x1)
    have BL1 := Lib.hid (BL.out.on x1)
    have k1 := BW1.out.cell 0
    clear x1
    go_wp2_with fail
    refine (c_impl_IsFinite_b far _ HFA.out HF.out).mono ?_; rintro e u2 ⟨rfl, q, hq⟩
    have x2 : Ext u1 u2 := by rw [hq]; exact Ext.drewN _ _
    have X2 := Lib.hid (X1.out.trans x2)
    have BW2 := Lib.hid (BW1.out.on x2)
    have BL2 := Lib.hid (BL1.out.on x2)
    have k2 := BW2.out.cell 0
    have k3 := BL2.out.cell 0
    clear hq k1 x2
    go_wp2_with fail
    refine (c_pairsOf_f w.heap.size (w.heap.size + 1) _ _ _ _ HV.out HN32.out (fun W2 i k X hik hk => c_np1 _ _ b off zss.length cap hs zss far L W2 i k (v := (normR (diffL (rowS zss i) (rowS zss k))).1) rfl rfl HL32.out (by omega) hk (by have := HN32.out; omega) ((BL2.out.on X).cell 0) ((BW2.out.on X).cell 0) (by have := (X2.out.trans X).some (HC.out i (by omega)); rwa [(HLE.out i (by omega)).1] at this) (by have := (X2.out.trans X).some (HC.out k hk); rwa [(HLE.out k hk).1] at this) (by have := (H.out.on (X2.out.trans X)).r i (by omega); rwa [(HLE.out i (by omega)).1] at this) (by have := (H.out.on (X2.out.trans X)).r k hk; rwa [(HLE.out k hk).1] at this) (HLE.out i (by omega)).2 (HLE.out k hk).2)).mono ?_; rintro e u3 ⟨a3, c3, rfl, o3, x3⟩
    have O3 := Lib.hid o3
    have X3 := Lib.hid x3
    clear o3 x3 k2 k3
    go_wp2
    go_ret2
    exact RetSB.onf X2.out ⟨_, _, rfl, O3.out, X3.out⟩
end Go.Proofs.Ytibldgcfplpdkaa
