/- l03Own, PutCells: both sides. -/
import Derived.Test.YtmgkbgdbahijnadChc
namespace Go.Proofs.Ytmgkbgdbahijnad
open Go.ChangeShapes Go.WideShapes Go.ChangeAt Go.RowKit
set_option linter.unusedVariables false
theorem Reads.news {w : World} {b off n : Nat} {vs : List Value} (h : Reads w (some ⟨b, off, none⟩) n vs) : ∀ j u, vs[j]? = some u → w.cell? ((⟨b, off, none⟩ : Addr).add j) = some u := by
  intro j u hj
  have hj' := (List.getElem?_eq_some_iff.1 hj).1
  rw [h.1] at hj'
  rcases h.2 with h0 | ⟨b', off', he, hc⟩
  · omega
  · cases he
    have e : (⟨b, off, none⟩ : Addr).add j = ⟨b, off + j, none⟩ := by unfold Addr.add; split <;> simp_all
    rw [e, hc j hj', hj]
theorem ints_one (zs : List Int) : ∀ u ∈ ints zs, u.oneCell' = true := by
  intro u hu; obtain ⟨x, _, rfl⟩ := List.mem_map.1 hu; rfl
set_option maxHeartbeats 4000000 in
theorem c_spec_l03Own (b : Nat) (W D S : Int) (a : Option Addr) (n cap : Nat) (zs : List Int) (w : World) (hn0 : 0 < n) (hn4 : n ≤ 1048576) (hb : Box w b 65 #[.int .i64 W, .int .i64 D, .int .i64 S, .slice a n cap]) (h : Reads w a n (ints zs)) :
    Calls Try.prog 88 #[.pointer (some ⟨b, 0, none⟩)] w fun e w' => ∃ g c f, e = .returned (.agg #[.int .i64 W, .int .i64 D, .int .i64 S, .slice (some ⟨g, 0, none⟩) n c]) ∧ w.heap.size ≤ g ∧ n ≤ c ∧ w'.rowIs g 2 c (rowT zs f) ∧ Ext w w' := by
  obtain ⟨i0, hi, hz0, hz1, hz2⟩ := info_parts info_i64
  have hl := h.int.1
  obtain ⟨ab, ao, rfl⟩ : ∃ b off, a = some ⟨b, off, none⟩ := by
    rcases h.2 with h0 | ⟨b', off', rfl, _⟩
    · omega
    · exact ⟨_, _, rfl⟩
  have HR := Lib.hid h
  have HB := Lib.hid hb
  have HZ := Lib.hid hl
  have hlt := hb.lt
  have hbw : b ≠ w.heap.size := by omega
  have hbw' : w.heap.size ≠ b := by omega
  have HBR := Lib.hid (hb.on (Ext.alloc w (.cells #[.int .i64 0, .int .i64 0, .int .i64 0, .slice none 0 0] 65)))
  have HRS := Lib.hid (Box.alloc w #[.int .i64 0, .int .i64 0, .int .i64 0, .slice none 0 0] 65)
  obtain ⟨b0, b1, b2, b3⟩ := HB.out.four
  clear h hb hl
  go_enter Try.func88, Try.ntmps88
  go_wp2_with fail
  go_region_held3 (fun w' => w'.cell? ⟨b, 0, none⟩ = some (.int .i64 W) ∧ w'.cell? ⟨b, 1, none⟩ = some (.int .i64 D) ∧ w'.cell? ⟨b, 2, none⟩ = some (.int .i64 S) ∧ w'.cell? ⟨b, 3, none⟩ = some (.slice (some ⟨ab, ao, none⟩) n cap)) (first | exact KA | go_keep)
    (first | (refine step_append_lies _ (by rfl) _ _ 22 (by rfl) w.heap.size 2 i0 _ 1 8 Try.underlying22 hi hz0 hz1 hz2 rfl (by decide) (.slice (some ⟨w.heap.size + 1, 0, none⟩) 0 0) 0 [] (by rfl) (made_at _ _ _ (by first | omega | (simp; done) | (simp; omega)) (by omega) (Nat.zero_le _) rfl) ⟨ab, ao, none⟩ n cap (ints zs) (by rfl) (by rw [ints_length, HZ.out, Nat.mul_one]) (Reads.news (HR.out.on (by (repeat (first | assumption | exact Ext.refl _ | (with_reducible refine Ext.stepS ?_ (by first | exact Nat.le_refl _ | (simp; done) | (simp; omega)) _) | (with_reducible refine Ext.stepN ?_ _) | (with_reducible refine Ext.stepD ?_) | (with_reducible refine Ext.stepA ?_ _)))))) (ints_one zs) hn0 (by unfold maxLen; omega) (by omega) (by first | omega | (simp; done) | (simp; omega)) (w.heap.size + 2) (by first | omega | (simp; done) | (simp; omega)) ?_; intro g c2 w1 hown1 hgrow hat hlt1; have EA : Ext w w1 := Below.grown (show Ext w _ by (repeat (first | assumption | exact Ext.refl _ | (with_reducible refine Ext.stepS ?_ (by first | exact Nat.le_refl _ | (simp; done) | (simp; omega)) _) | (with_reducible refine Ext.stepN ?_ _) | (with_reducible refine Ext.stepD ?_) | (with_reducible refine Ext.stepA ?_ _)))) hgrow (by first | omega | (simp; done) | (simp; omega)) (by intro j hj; simp [Value.ownBlock] at hj; omega); have KA := (HB.out.on EA).four; have RB := Lib.hid (show Box w1 w.heap.size 65 #[.int .i64 0, .int .i64 0, .int .i64 0, .slice none 0 0] from (hgrow.block w.heap.size (by first | omega | (simp; done) | (simp; omega)) (by simp [Value.ownBlock])).trans (Box.on HRS.out (by (repeat (first | assumption | exact Ext.refl _ | (with_reducible refine Ext.stepS ?_ (by first | exact Nat.le_refl _ | (simp; done) | (simp; omega)) _) | (with_reducible refine Ext.stepN ?_ _) | (with_reducible refine Ext.stepD ?_) | (with_reducible refine Ext.stepA ?_ _)))))); obtain ⟨z0, z1, z2, z3⟩ := RB.out.four; obtain ⟨y0, y1, y2, y3⟩ := RB.out.free; have OW := Lib.hid hown1; have AT := Lib.hid hat; clear hat; have EH := Lib.hid EA; clear hown1 hgrow))
  have OW2 := OW.out
  simp only [Nat.zero_add, List.nil_append] at OW2
  obtain ⟨a', c', he, ho⟩ := Own.of_row (e := 0) OW2
  cases he
  obtain ⟨g', f, hg', h1, h2, h3, h4, h5⟩ := ho.rowT hn0
  cases hg'
  have HRW := Lib.hid h5
  have hgl : w.heap.size + 1 ≤ g := by have := AT.out; simp [Value.ownBlock] at this; omega
  have HGL := Lib.hid hgl
  clear ho h5 OW2 hgl b0 b1 b2 b3
  go_wp2
  refine bodyPost_ret (v := .agg #[.int .i64 W, .int .i64 D, .int .i64 S, .slice (some ⟨g, 0, none⟩) n c2]) (by simp [results, Try.results88, go_sem, z0, z1, z2, z3]) rfl ⟨g, c2, f, rfl, by omega, h4, ?_, ?_⟩
  · exact (((HRW.out.setOther (by have := HGL.out; simp; omega) _).setOther (by have := HGL.out; simp; omega) _).setOther (by have := HGL.out; simp; omega) _).setOther (by have := HGL.out; simp; omega) _
  · have EH' := EH.out
    (repeat (first | assumption | exact Ext.refl _ | (with_reducible refine Ext.stepS ?_ (by first | exact Nat.le_refl _ | (simp; done) | (simp; omega)) _) | (with_reducible refine Ext.stepN ?_ _) | (with_reducible refine Ext.stepD ?_) | (with_reducible refine Ext.stepA ?_ _)))
end Go.Proofs.Ytmgkbgdbahijnad
