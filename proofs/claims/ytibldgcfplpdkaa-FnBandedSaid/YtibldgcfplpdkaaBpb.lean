/- BandPairs: parts of lists of bits. No program. -/
import Derived.Test.YtibldgcfplpdkaaSbt
namespace Go.Proofs.Ytibldgcfplpdkaa
open Go.ChangeShapes Go.WideShapes Go.ChangeAt Go.RowKit
set_option linter.unusedVariables false
def cutB (xs : List Bool) (f k : Nat) : List Bool := (xs.drop f).take k
theorem cutB_length {xs : List Bool} {f k : Nat} (h : f + k ≤ xs.length) : (cutB xs f k).length = k := by
  unfold cutB; rw [List.length_take, List.length_drop]; omega
theorem cutB_get {xs : List Bool} {f k i : Nat} (h : i < k) : (cutB xs f k)[i]? = xs[f + i]? := by
  unfold cutB; rw [List.getElem?_take, if_pos h, List.getElem?_drop]
theorem sameAt_cut {xs ys : List Bool} {f k : Nat} (hx : f + k ≤ xs.length) (hy : f + k ≤ ys.length) : sameLB (cutB xs f k) (cutB ys f k) = sameAt xs ys f k := by
  cases h : sameAt xs ys f k
  · by_cases hc : ∃ i, i < k ∧ getBo xs (f + i) ≠ getBo ys (f + i)
    · obtain ⟨i, hi, hne⟩ := hc
      refine sameLB_at (k := i) ?_
      rw [cutB_get hi, cutB_get hi]; exact hne
    · exfalso
      have : sameAt xs ys f k = true := allTo_yes fun i hi => by
        by_cases e : getBo xs (f + i) = getBo ys (f + i)
        · rw [e]; simp
        · exact absurd ⟨i, hi, e⟩ hc
      rw [this] at h; cases h
  · refine sameLB_all (by rw [cutB_length hx, cutB_length hy]) fun i hi => ?_
    rw [cutB_length hx] at hi
    have h1 := allTo_at h hi
    rw [cutB_get hi, cutB_get hi]
    exact eq_of_beq h1
theorem reads_cutB {w : World} {b off n : Nat} {xs : List Bool} (f k : Nat) (h : Reads w (some ⟨b, off, none⟩) n (bools xs)) (hf : f + k ≤ n) : Reads w (some ⟨b, off + f, none⟩) k (bools (cutB xs f k)) := by
  obtain ⟨hz, hr⟩ := h.bool
  refine ⟨by rw [bools_length, cutB_length (by omega)], ?_⟩
  rcases hr with h0 | ⟨b', off', he, hc⟩
  · exact .inl (by omega)
  · cases he
    refine .inr ⟨b, off + f, rfl, fun i hi => ?_⟩
    rw [Nat.add_assoc, hc (f + i) (by omega), bools_get _ i (by rw [cutB_length (by omega)]; exact hi), cutB_get hi]
end Go.Proofs.Ytibldgcfplpdkaa
