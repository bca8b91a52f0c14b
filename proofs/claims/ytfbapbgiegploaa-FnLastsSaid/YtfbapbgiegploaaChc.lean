/- changeCells: the program's side, for any function that changes a count. -/
import Derived.Test.YtfbapbgiegploaaPlb
import Derived.Deep.DeepCutAuto
import Derived.Deep.LoopGhost
import Derived.Lib.SmallJoins
namespace Go.Proofs.Ytfbapbgiegploaa
open Go.ChangeShapes Go.WideShapes Go.ChangeAt Go.RowKit
set_option linter.unusedVariables false
theorem Box.put {w : World} {b : Nat} {t : TypeId} {vs : Array Value} (h : Box w b t vs) (i : Nat) (v : Value) : Box (w.setCell ⟨b, i, none⟩ v) b t (vs.setIfInBounds i v) := Go.Joins.block_setCell h v
theorem Box.other {w : World} {b : Nat} {t : TypeId} {vs : Array Value} (h : Box w b t vs) {a : Addr} (ha : b ≠ a.block) (v : Value) : Box (w.setCell a v) b t vs := (Below.heap_setCell _ _ _ _ (fun e => ha e)).trans h
set_option maxHeartbeats 1000000 in
theorem c_Clone (b off n c : Nat) (zs : List Int) (w : World) (hz : zs.length = n) (hn : n ≤ 1048576) (hc : ∀ i, i < n → w.cell? ⟨b, off + i, none⟩ = (ints zs)[i]?) :
    Calls Try.prog 108 #[.slice (some ⟨b, off, none⟩) n c] w fun e w' => ∃ v', e = .returned v' ∧ w'.ownsRow w.heap.size 2 1 v' n (ints zs) ∧ v' ≠ .slice none 0 0 ∧ Ext w w' := by
  obtain ⟨i0, hi, hz0, hz1, hz2⟩ := info_parts info_i64
  have q22 : ∀ (w : World) (a : Option Addr) (n c n' c' : Nat), (binOp .eql 25 (.slice a n c) (.slice none n' c')).run Try.prog w = .ok (.bool a.isNone) w := fun w a n c n' c' => Lib.run_eql_slice_nil w _ _ a n c n' c' Try.underlying25
  have HC := Lib.hid hc
  have HZ := Lib.hid hz
  clear hc hz
  go_enter Try.func108, Try.ntmps108
  go_wp2_with (at_builtin; refine wpList_append_own _ rfl _ _ 25 rfl w.heap.size 2 i0 (.int .i64 0) 1 8 Try.underlying25 hi hz0 hz1 hz2 rfl (by decide) _ _ _ rfl (World.ownsRow_made w #[] 0 (Nat.le_refl _) (Nat.zero_le _) rfl) ⟨b, off, none⟩ n c (ints zs) rfl ?qc1 ?qc2 ?qc3 ?qc4 ?qc5 ?qc6 ?_)
  case qc1 => rw [ints_length, HZ.out]; simp
  case qc2 =>
    intro j u hj
    have hjn : j < n := by
      have := (List.getElem?_eq_some_iff.1 hj).1
      rw [ints_length, HZ.out] at this
      exact this
    rw [Addr.add_lit]
    refine Lib.cell?_alloc_some _ ?_
    rw [HC.out j hjn]
    exact hj
  case qc3 => intro u hu; obtain ⟨x, _, rfl⟩ := List.mem_map.1 hu; rfl
  case qc4 => unfold maxLen; omega
  case qc5 => omega
  case qc6 => simp
  intro v' w1 hown hgrow hnil
  go_wp2
  go_ret
  refine ⟨v', rfl, by simpa using hown, ?_, ?_⟩
  · exact hnil
  · exact ((Below.refl _ w).alloc (Nat.le_refl _) _).grown hgrow (by simp) (by intro k hk; simp [Value.ownBlock] at hk; omega)
theorem c_Clone_r (a : Option Addr) (n c : Nat) (zs : List Int) (w : World) (h0 : 0 < n) (hn : n ≤ 1048576) (h : Reads w a n (ints zs)) :
    Calls Try.prog 108 #[.slice a n c] w fun e w' => ∃ g c' f, e = .returned (.slice (some ⟨g, 0, none⟩) n c') ∧ w.heap.size ≤ g ∧ n ≤ c' ∧ w'.rowIs g 2 c' (rowT zs f) ∧ Ext w w' := by
  obtain ⟨hl, h1⟩ := h
  rcases h1 with h1 | ⟨b, off, rfl, hc⟩
  · omega
  refine (c_Clone b off n c zs w (by rw [← ints_length]; exact hl) hn hc).mono ?_
  rintro e w' ⟨v', rfl, ho, hne, hx⟩
  obtain ⟨a', c', rfl, ho'⟩ := Own.of_row (e := 0) ho
  obtain ⟨g, f, rfl, h1, h2, h3, h4, h5⟩ := ho'.rowT h0
  exact ⟨g, c', f, rfl, h1, h4, h5, hx⟩
end Go.Proofs.Ytfbapbgiegploaa
