/- Rows put behind one another by append, of any element; what other rows keep. -/
import Derived.Test.YtibldgcfplpdkaaSsl
import Derived.Test.YtibldgcfplpdkaaRow
namespace Go.Proofs.Ytibldgcfplpdkaa
open Go.ChangeShapes Go.WideShapes Go.ChangeAt Go.RowKit
set_option linter.unusedVariables false
theorem ownsRow_block {w : World} {base n : Nat} {t : TypeId} {v : Value} {xs : List Value} (h : w.ownsRow base t 1 v n xs) : ∀ g, v.ownBlock = some g → ∃ vs q, w.heap[g]? = some (.cells vs t q) := by
  intro g hg
  rcases h.2 with ⟨rfl, _⟩ | ⟨g0, cap, cur, rfl, hb, hg0, rest⟩
  · cases hg
  · cases hg; exact ⟨_, _, hg0⟩
/-- a row of other elements has grown -/
theorem ownsRow_other {w w3 : World} {base base' n m : Nat} {t t' : TypeId} {v u : Value} {xs ys : List Value} {o : Obj} (hne : t ≠ t') (h : w.ownsRow base t 1 v n xs) (hu : w.ownsRow base' t' 1 u m ys) (hg : (w.alloc o).grownBy w3 u.ownBlock) : w3.ownsRow base t 1 v n xs := by
  have hlt := h.lt
  refine ⟨h.1, ?_⟩
  rcases h.2 with h0 | ⟨g, cap, cur, rfl, hb, hg0, rest⟩
  · exact .inl h0
  · refine .inr ⟨g, cap, cur, rfl, hb, ?_, rest⟩
    have hgs := (hlt g rfl).2
    rw [hg.block g (by simp; omega) (fun e => by
      obtain ⟨vs, q, hq⟩ := ownsRow_block hu g e.symm
      rw [hg0] at hq
      cases hq; exact hne rfl)]
    exact (Below.heap_alloc _ _ _ hgs).trans hg0
theorem Own_other {w w3 : World} {lo hi base' n c m : Nat} {t t' : TypeId} {a : Option Addr} {u : Value} {vs ys : List Value} {o : Obj} (hne : t ≠ t') (h : Own t w lo hi a n c vs) (hu : w.ownsRow base' t' 1 u m ys) (hg : (w.alloc o).grownBy w3 u.ownBlock) : Own t w3 lo hi a n c vs := by
  refine ⟨h.1, h.2.1, ?_⟩
  rcases h.2.2 with h0 | ⟨g, f, rfl, h1, h2, hr, hf⟩
  · exact .inl h0
  · have hgs := hr.lt
    refine .inr ⟨g, f, rfl, h1, h2, hr.of_block ?_, hf⟩
    rw [hg.block g (by simp; omega) (fun e => by
      obtain ⟨vs, q, hq⟩ := ownsRow_block hu g e.symm
      obtain ⟨y, h3, _⟩ := hr
      rw [h3] at hq
      cases hq; exact hne rfl)]
    exact Below.heap_alloc _ _ _ hgs
theorem owns_ext {w w' : World} {base n : Nat} {t : TypeId} {v : Value} {xs : List Value} (h : w.ownsRow base t 1 v n xs) (e : Ext w w') : w'.ownsRow base t 1 v n xs := by
  refine ⟨h.1, ?_⟩
  rcases h.2 with h0 | ⟨g, cap, cur, rfl, hb, hg, rest⟩
  · exact .inl h0
  · exact .inr ⟨g, cap, cur, rfl, hb, by rw [Below.block e g (Array.getElem?_eq_some_iff.1 hg).1]; exact hg, rest⟩
section
variable {α : Type} {fn : List α → List Value}
structure AppG (fn : List α → List Value) (to ti : TypeId) (w : World) (lo : Nat) (v : Value) (ks : Nat → Hd) (zss : List (List α)) : Prop where
  o : w.ownsRow lo to 1 v zss.length (hdsV ks zss)
  r : ∀ i, i < zss.length → ∃ lo' hi', Own ti w lo' hi' (ks i).a (rowS zss i).length (ks i).c (fn (rowS zss i))
theorem AppG.on {to ti : TypeId} {w w' : World} {lo : Nat} {v : Value} {ks : Nat → Hd} {zss : List (List α)} (h : AppG fn to ti w lo v ks zss) (e : Ext w w') : AppG fn to ti w' lo v ks zss :=
  ⟨owns_ext h.o e, fun i hi => by obtain ⟨l, g, h1⟩ := h.r i hi; exact ⟨l, g, h1.on e⟩⟩
/-- a row of other elements, other than headers and elements, has grown -/
theorem AppG.other {to ti t' : TypeId} {w w3 : World} {lo base' m : Nat} {v u : Value} {ys : List Value} {o : Obj} {ks : Nat → Hd} {zss : List (List α)} (h1 : to ≠ t') (h2 : ti ≠ t') (h : AppG fn to ti w lo v ks zss) (hu : w.ownsRow base' t' 1 u m ys) (hg : (w.alloc o).grownBy w3 u.ownBlock) : AppG fn to ti w3 lo v ks zss :=
  ⟨ownsRow_other h1 h.o hu hg, fun i hi => by obtain ⟨l, g, h3⟩ := h.r i hi; exact ⟨l, g, Own_other h2 h3 hu hg⟩⟩
theorem rowS_app (zss : List (List α)) (x : List α) (i : Nat) : rowS (zss ++ [x]) i = if i < zss.length then rowS zss i else if i = zss.length then x else [] := by
  unfold rowS
  by_cases h : i < zss.length
  · rw [if_pos h, List.getElem?_append_left h]
  · rw [if_neg h]
    by_cases e : i = zss.length
    · subst e; rw [if_pos rfl, List.getElem?_append_right (Nat.le_refl _), Nat.sub_self]; rfl
    · rw [if_neg e, List.getElem?_eq_none (by rw [List.length_append, List.length_singleton]; omega)]; rfl
theorem hdsV_app (ks : Nat → Hd) (zss : List (List α)) (x : List α) (a : Option Addr) (c : Nat) : hdsV (setHd ks zss.length a c) (zss ++ [x]) = hdsV ks zss ++ [.slice a x.length c] := by
  apply List.ext_getElem?
  intro i
  by_cases h : i < zss.length
  · rw [List.getElem?_append_left (by rw [hdsV_length]; exact h), hdsV_get _ _ _ (by rw [List.length_append]; omega), hdsV_get _ _ _ h]
    unfold hdV
    rw [rowS_app, if_pos h, setHd_ne _ _ _ (by omega)]
  · by_cases e : i = zss.length
    · subst e
      rw [List.getElem?_append_right (by rw [hdsV_length]; exact Nat.le_refl _), hdsV_length, Nat.sub_self, hdsV_get _ _ _ (by rw [List.length_append, List.length_singleton]; omega)]
      unfold hdV
      rw [rowS_app, if_neg (Nat.lt_irrefl _), if_pos rfl, setHd_at]; rfl
    · rw [List.getElem?_eq_none (by rw [hdsV_length, List.length_append, List.length_singleton]; omega), List.getElem?_eq_none (by rw [List.length_append, hdsV_length, List.length_singleton]; omega)]
/-- a row more -/
theorem AppG.app {to ti : TypeId} {w w3 : World} {lo : Nat} {v v' : Value} {o : Obj} {ks : Nat → Hd} {zss : List (List α)} {x : List α} {a : Option Addr} {c l hi m : Nat} (hty : ti ≠ to) (h : AppG fn to ti w lo v ks zss) (hl : x.length = m) (hx : Own ti w l hi a m c (fn x))
    (hv : w3.ownsRow lo to 1 v' (zss.length + 1) (hdsV ks zss ++ [.slice a m c])) (hg : (w.alloc o).grownBy w3 v.ownBlock) : AppG fn to ti w3 lo v' (setHd ks zss.length a c) (zss ++ [x]) := by
  subst hl
  refine ⟨by rw [hdsV_app, List.length_append, List.length_singleton]; exact hv, fun i hi => ?_⟩
  rw [List.length_append, List.length_singleton] at hi
  rw [rowS_app]
  by_cases e : i < zss.length
  · obtain ⟨l', g', h3⟩ := h.r i e
    rw [if_pos e, setHd_ne _ _ _ (by omega)]
    exact ⟨l', g', Own_other hty h3 h.o hg⟩
  · have e2 : i = zss.length := by omega
    subst e2
    rw [if_neg e, if_pos rfl, setHd_at]
    exact ⟨l, _, Own_other hty hx h.o hg⟩
theorem AppG.reads {to ti : TypeId} {w : World} {lo : Nat} {v : Value} {ks : Nat → Hd} {zss : List (List α)} (h : AppG fn to ti w lo v ks zss) : ∃ a c, v = .slice a zss.length c ∧ ReadsS fn w a zss.length ks zss ∧ Own to w lo w.heap.size a zss.length c (hdsV ks zss) ∧ ∀ i, i < zss.length → (rowS zss i).length ≤ (ks i).c := by
  obtain ⟨a, c, rfl, ho⟩ := Own.of_row (e := 0) h.o
  exact ⟨a, c, rfl, ⟨ho.reads, fun i hi => by obtain ⟨l, g, h3⟩ := h.r i hi; exact h3.reads⟩, ho, fun i hi => by obtain ⟨l, g, h3⟩ := h.r i hi; exact h3.2.1⟩
theorem AppG.head {to ti : TypeId} {w : World} {lo b o m c : Nat} {ks : Nat → Hd} {zss : List (List α)} {ad : Option Addr} {cd n : Nat} (h : AppG fn to ti w lo (.slice (some ⟨b, o, none⟩) m c) ks zss) (h0 : 0 < zss.length) (hk : ks 0 = ⟨ad, cd⟩) (hn : (rowS zss 0).length = n) : w.cell? ⟨b, o, none⟩ = some (.slice ad n cd) := by
  obtain ⟨a, c', e, rd, _⟩ := h.reads
  cases e
  rcases rd.cells with h1 | ⟨b', off, e2, hc⟩
  · omega
  · cases e2
    have := hc 0 h0
    rw [Nat.add_zero, hk, hn] at this
    exact this
end
end Go.Proofs.Ytibldgcfplpdkaa
