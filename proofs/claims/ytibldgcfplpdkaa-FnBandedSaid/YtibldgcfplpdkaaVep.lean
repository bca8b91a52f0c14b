/- Plain: sums of squares are not negative; the root of a finite number that is not negative is finite. -/
import Derived.Test.YtibldgcfplpdkaaFky
import Derived.Test.YtibldgcfplpdkaaFlb
namespace Go.Proofs.Ytibldgcfplpdkaa.Flo
open Go Go.RowKit
set_option linter.unusedVariables false
theorem fv_isS {k : FloatKind} {b r : Nat} (h : fv k b = some r) : b = r := by
  unfold fv at h; split at h
  · cases h
  · exact Option.some.inj h
theorem fin_fvS {b : Nat} (h : isFin .f32 b = true) : fv .f32 b = some b := by
  obtain ⟨s, m, e, hd⟩ := isFin_number h
  exact fv_some (by rw [hd]; rfl)
def finV (v : Option Nat) : Bool := match v with
  | some b => isFin .f32 b
  | none => false
theorem finV_fv (b : Nat) : finV (fv .f32 b) = isFin .f32 b := by
  rcases fv_cases .f32 b with ⟨h, hf⟩ | ⟨h, hf⟩
  · rw [hf, isFin_iff, h]; rfl
  · rw [hf]; rfl
theorem finV_some {v : Option Nat} (h : finV v = true) : ∃ b, v = some b ∧ isFin .f32 b = true := by
  cases v with
  | none => cases h
  | some b => exact ⟨b, rfl, h⟩
/-- a datum that is not negative -/
def NnD : Ieee.Datum → Prop
  | .number s _ _ => s = false
  | .infinity s => s = false
  | .nan .. => False
theorem nn_word {r : Nat} (h : r ≤ Ieee.single.infRung) : NnD (Ieee.single.read (Ieee.single.word false r)) := by
  by_cases hr : r < Ieee.single.infRung
  · rw [read_wordf Ieee.single false r hr]; split <;> rfl
  · obtain rfl : r = 2139095040 := by have := single_inf; omega
    have e : Ieee.single.read (Ieee.single.word false 2139095040) = .infinity false := by kernel_rfl
    rw [e]; rfl
theorem nn_nearest (m : Nat) (e : Int) : NnD (Ieee.single.read (Ieee.single.nearest false m e)) := by
  unfold Ieee.Format.nearest
  dsimp only
  split
  · exact nn_word (Nat.zero_le _)
  · exact nn_word (Nat.min_le_right ..)
theorem nn_write {d : Ieee.Datum} (h : NnD d) : NnD (Ieee.single.read (Ieee.single.write d)) := by
  cases d with
  | number s m e => obtain rfl : s = false := h; exact nn_nearest m e
  | infinity s => obtain rfl : s = false := h; exact nn_word (Nat.le_refl _)
  | nan s t => exact h.elim
theorem signed_nn (m u : Nat) : 0 ≤ Ieee.signed false m u := by
  unfold Ieee.signed; rw [if_neg (by decide)]; exact Int.natCast_nonneg _
theorem nn_sum {d e r : Ieee.Datum} (h1 : NnD d) (h2 : NnD e) (h : d.sum e = some r) : NnD r := by
  cases d with
  | nan s t => exact h1.elim
  | infinity s =>
    obtain rfl : s = false := h1
    cases e with
    | nan s t => exact h2.elim
    | infinity s => obtain rfl : s = false := h2; simp only [Ieee.Datum.sum, if_true] at h; cases h; rfl
    | number s m i => simp only [Ieee.Datum.sum] at h; cases h; rfl
  | number s m i =>
    obtain rfl : s = false := h1
    cases e with
    | nan s t => exact h2.elim
    | infinity s => obtain rfl : s = false := h2; simp only [Ieee.Datum.sum] at h; cases h; rfl
    | number s n j =>
      obtain rfl : s = false := h2
      simp only [Ieee.Datum.sum] at h
      have h := Option.some.inj h
      rw [← h]
      show (if _ then _ else _) = false
      split
      · rfl
      · have h1 := signed_nn m (i - min i j).toNat
        have h2 := signed_nn n (j - min i j).toNat
        exact decide_eq_false (by omega)
theorem nn_prod {d r : Ieee.Datum} (h : d.product d = some r) : NnD r := by
  cases d with
  | nan s t => simp only [Ieee.Datum.product] at h; cases h
  | infinity s => simp only [Ieee.Datum.product] at h; cases h; show (s ^^ s) = false; simp
  | number s m i => simp only [Ieee.Datum.product] at h; cases h; show (s ^^ s) = false; simp
/-- a value that is not negative -/
def Nn (v : Option Nat) : Prop := ∀ b, v = some b → NnD (FloatKind.f32.decode b)
theorem Nn.sq (v : Option Nat) : Nn (fop .mul .f32 v v) := by
  intro r h
  cases v with
  | none => cases h
  | some x =>
    have h : floatBits .mul .f32 x x = some r := h
    simp only [floatBits, Ieee.Format.mul, Option.map_eq_some_iff] at h
    obtain ⟨a, h1, rfl⟩ := h
    exact nn_write (nn_prod h1)
theorem Nn.add {u v : Option Nat} (hu : Nn u) (hv : Nn v) : Nn (fop .add .f32 u v) := by
  intro r h
  cases u with
  | none => cases h
  | some x =>
    cases v with
    | none => cases h
    | some y =>
      have h : floatBits .add .f32 x y = some r := h
      simp only [floatBits, Ieee.Format.add, Option.map_eq_some_iff] at h
      obtain ⟨a, h1, rfl⟩ := h
      exact nn_write (nn_sum (hu x rfl) (hv y rfl) h1)
theorem slim_fin {y z : Nat} {s : Bool} {m : Nat} {e : Int} (hy : FloatKind.f64.decode y = .number s m e) (h : floatToFloatBits .f64 y .f32 = some z) : isFin .f32 z = true := by
  have hn := slim_notNaN h
  unfold floatToFloatBits at h
  rw [if_neg (by decide), hy] at h
  simp only at h
  split at h
  · cases h
  · rename_i hi
    have h := Option.some.inj h
    rw [h] at hi
    rw [isFin_iff, hn]
    simpa using hi
theorem root_fin {v : Option Nat} (h : Nn v) : finV (slim (fsq (wide v))) = finV v := by
  cases v with
  | none => rfl
  | some b =>
    have hb := h b rfl
    cases hd : FloatKind.f32.decode b with
    | nan s t => rw [hd] at hb; exact hb.elim
    | infinity s =>
      rw [hd] at hb
      obtain rfl : s = false := hb
      have e : wide (some b) = some (FloatKind.f64.encode (.infinity false)) := widen_infinity hd
      rw [e, show finV (slim (fsq (some (FloatKind.f64.encode (.infinity false))))) = false by kernel_rfl]
      show false = isFin .f32 b
      unfold isFin; rw [hd]
    | number s m e =>
      rw [hd] at hb
      obtain rfl : s = false := hb
      have hf : isFin .f32 b = true := by unfold isFin; rw [hd]
      obtain ⟨h1, h2, h3, _⟩ := decode32_number hd
      have hw : wide (some b) = some (FloatKind.f64.encode (.number false m e)) := widen_number hd
      have hB := Bd.sqrt (wide_bd hf) (by omega) (by omega)
      have hq : ∃ y, fsq (wide (some b)) = some y := by
        rw [hw]
        obtain ⟨M, E, hM⟩ : ∃ M E, FloatKind.f64.decode (FloatKind.f64.encode (.number false m e)) = .number false M E := by
          by_cases h0 : m = 0
          · subst h0; exact ⟨_, _, decode_encode64_zero⟩
          · exact ⟨_, _, decode_encode64 h0 h1 h2 h3⟩
        have e2 : fsq (some (FloatKind.f64.encode (.number false m e))) = ((FloatKind.f64.decode (FloatKind.f64.encode (.number false m e))).root 54).map FloatKind.f64.format.write := rfl
        rw [e2, hM]
        simp only [Ieee.Datum.root]
        by_cases hM0 : M = 0
        · rw [if_pos hM0]; exact ⟨_, rfl⟩
        · rw [if_neg hM0, if_neg (by decide)]; exact ⟨_, rfl⟩
      obtain ⟨y, hy⟩ := hq
      obtain ⟨s', m', e', hd', _⟩ := hB y hy
      have hs := Bd.slim hB (by omega)
      rw [hy] at hs ⊢
      rcases hs with hs | hs
      · cases hs
      · obtain ⟨z, hz⟩ := Option.isSome_iff_exists.1 hs
        rw [hz]
        show isFin .f32 z = isFin .f32 b
        rw [hf]
        exact slim_fin hd' hz
theorem root_0 : slim (fsq (wide (some 0))) = some 0 := by kernel_rfl
end Go.Proofs.Ytibldgcfplpdkaa.Flo
