/- l03Own, PutCells: both sides. -/
import Derived.Test.YtfolflkbpdbkcaaChc
namespace Go.Proofs.Ytfolflkbpdbkcaa
open Go.ChangeShapes Go.WideShapes Go.ChangeAt Go.RowKit
set_option linter.unusedVariables false
theorem Reads.news {w : World} {b off n : Nat} {vs : List Value} (h : Reads w (some ⟨b, off, none⟩) n vs) : ∀ j u, vs[j]? = some u → w.cell? ((⟨b, off, none⟩ : Addr).add j) = some u := by
  intro j u hj
  have hj' := (List.getElem?_eq_some_iff.1 hj).1
  rw [h.1] at hj'
  rcases h.2 with h0 | ⟨b', off', he, hc⟩
  · omega
  · cases he
    have e : (⟨b, off, none⟩ : Addr).add j = ⟨b, off + j, none⟩ := by unfold Addr.add; split <;> simp_all
    rw [e, hc j hj', hj]
theorem ints_one (zs : List Int) : ∀ u ∈ ints zs, u.oneCell' = true := by
  intro u hu; obtain ⟨x, _, rfl⟩ := List.mem_map.1 hu; rfl
end Go.Proofs.Ytfolflkbpdbkcaa
