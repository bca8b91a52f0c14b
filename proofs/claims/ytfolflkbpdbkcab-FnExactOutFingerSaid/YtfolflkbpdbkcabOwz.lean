/- Zeros and fingers of their own; JoinZeros: both sides. -/
import Derived.Test.YtfolflkbpdbkcabFin
import Derived.Test.YtfolflkbpdbkcabOwc
import Derived.Deep.DeepCutAuto
import Derived.Deep.LoopGhost
import Derived.Deep.RegionHeld3
import Derived.Deep.AppendLies
import Derived.Lib.SmallJoins
namespace Go.Proofs.Ytfolflkbpdbkcab
open Go.ChangeShapes Go.WideShapes Go.ChangeAt Go.RowKit
set_option linter.unusedVariables false
/-- the greatest ones of both, of the first k -/
def maxUp (xs ys : List Int) : Nat → List Int
  | 0 => xs
  | k + 1 => (maxUp xs ys k).set k (max (xs[k]?.getD 0) (ys[k]?.getD 0))
theorem maxUp_length (xs ys : List Int) : ∀ k, (maxUp xs ys k).length = xs.length
  | 0 => rfl
  | k + 1 => by
    show ((maxUp xs ys k).set k _).length = _
    rw [List.length_set, maxUp_length xs ys k]
theorem maxUp_get (xs ys : List Int) : ∀ (k j : Nat), k ≤ j → (maxUp xs ys k)[j]?.getD 0 = xs[j]?.getD 0
  | 0, _, _ => rfl
  | k + 1, j, h => by
    show ((maxUp xs ys k).set k _)[j]?.getD 0 = _
    rw [List.getElem?_set, if_neg (by omega), maxUp_get xs ys k j (by omega)]
def zerB (S : Int) (zs : List Int) : Bool := cellsUp S zs 16 5 33
def likeZ (Sa : Int) (xs : List Int) (Sb : Int) (ys : List Int) : Bool := (zerB Sa xs && zerB Sb ys) && (decide (Sa = Sb) && decide (xs.length = ys.length))
def joinZR (Sa : Int) (xs : List Int) (Sb : Int) (ys : List Int) : FV × Bool := if likeZ Sa xs Sb ys then (⟨Sa, maxUp xs ys xs.length⟩, true) else (FV.no, false)
theorem joinZR_no {Sa Sb : Int} {xs ys : List Int} (h : likeZ Sa xs Sb ys = false) : joinZR Sa xs Sb ys = (FV.no, false) := by unfold joinZR; rw [h]; rfl
theorem joinZR_y {Sa Sb : Int} {xs ys : List Int} (h : likeZ Sa xs Sb ys = true) : joinZR Sa xs Sb ys = (⟨Sa, maxUp xs ys xs.length⟩, true) := by unfold joinZR; rw [h, if_pos rfl]
theorem likeZ_1 {Sa Sb : Int} {xs ys : List Int} (h : zerB Sa xs = false) : likeZ Sa xs Sb ys = false := by unfold likeZ; rw [h]; rfl
theorem likeZ_2 {Sa Sb : Int} {xs ys : List Int} (h : zerB Sb ys = false) : likeZ Sa xs Sb ys = false := by unfold likeZ; rw [h]; simp
theorem likeZ_3 {Sa Sb : Int} {xs ys : List Int} (h : Sa ≠ Sb) : likeZ Sa xs Sb ys = false := by unfold likeZ; rw [decide_eq_false h]; simp
theorem likeZ_4 {Sa Sb : Int} {xs ys : List Int} (h : xs.length ≠ ys.length) : likeZ Sa xs Sb ys = false := by unfold likeZ; rw [decide_eq_false h]; simp
theorem likeZ_y {S : Int} {xs ys : List Int} (h1 : zerB S xs = true) (h2 : zerB S ys = true) (h : xs.length = ys.length) : likeZ S xs S ys = true := by unfold likeZ; rw [h1, h2, decide_eq_true h]; simp
theorem zer_len {S : Int} {zs : List Int} (h : zerB S zs = true) : 16 ≤ zs.length ∧ zs.length ≤ 256 := by
  obtain ⟨_, h2, _⟩ := cellsUp_yes h
  obtain ⟨k, hk, e⟩ := doubB_yes h2
  have h3 := (show ∀ k, k < 5 → 16 * 2 ^ k ≤ 256 by decide) k hk
  have h4 : 1 ≤ 2 ^ k := Nat.one_le_two_pow
  omega
theorem joinZR_le {Sa Sb : Int} {xs ys rz : List Int} {rS : Int} {rb : Bool} (h : joinZR Sa xs Sb ys = (⟨rS, rz⟩, rb)) : rz.length ≤ 1048576 := by
  unfold joinZR at h
  split at h
  · rename_i hc
    unfold likeZ at hc
    simp only [Bool.and_eq_true] at hc
    have := zer_len hc.1.1
    simp only [Prod.mk.injEq, FV.mk.injEq] at h
    rw [← h.1.2, maxUp_length]; omega
  · simp only [Prod.mk.injEq, FV.no, FV.mk.injEq] at h
    rw [← h.1.2]; exact Nat.zero_le _
set_option maxHeartbeats 4000000 in
theorem c_spec_l04OwnZeros (b : Nat) (S : Int) (a : Option Addr) (n cap : Nat) (zs : List Int) (w : World) (hn0 : 0 < n) (hn4 : n ≤ 1048576) (hb : Box w b 54 #[.int .i64 S, .slice a n cap]) (h : Reads w a n (ints zs)) :
    Calls Try.prog 83 #[.pointer (some ⟨b, 0, none⟩)] w fun e w' => ∃ g c f, e = .returned (.agg #[.int .i64 S, .slice (some ⟨g, 0, none⟩) n c]) ∧ w.heap.size ≤ g ∧ n ≤ c ∧ w'.rowIs g 2 c (rowT zs f) ∧ Ext w w' := by
  obtain ⟨i0, hi, hz0, hz1, hz2⟩ := info_parts info_i64
  have hl := h.int.1
  obtain ⟨ab, ao, rfl⟩ : ∃ b off, a = some ⟨b, off, none⟩ := by
    rcases h.2 with h0 | ⟨b', off', rfl, _⟩
    · omega
    · exact ⟨_, _, rfl⟩
  have HR := Lib.hid h
  have HB := Lib.hid hb
  have HZ := Lib.hid hl
  have hlt := hb.lt
  have hbw : b ≠ w.heap.size := by omega
  have hbw' : w.heap.size ≠ b := by omega
  have HBR := Lib.hid (hb.on (Ext.alloc w (.cells #[.int .i64 0, .slice none 0 0] 54)))
  have HRS := Lib.hid (Box.alloc w #[.int .i64 0, .slice none 0 0] 54)
  obtain ⟨b0, b1⟩ := HB.out.two
  clear h hb hl
  go_enter Try.func83, Try.ntmps83
  go_wp2_with fail
  go_region_held3 (fun w' => w'.cell? ⟨b, 0, none⟩ = some (.int .i64 S) ∧ w'.cell? ⟨b, 1, none⟩ = some (.slice (some ⟨ab, ao, none⟩) n cap)) (first | exact KA | go_keep)
    (first | (refine step_append_lies _ (by rfl) _ _ 22 (by rfl) w.heap.size 2 i0 _ 1 8 Try.underlying22 hi hz0 hz1 hz2 rfl (by decide) (.slice (some ⟨w.heap.size + 1, 0, none⟩) 0 0) 0 [] (by rfl) (made_at _ _ _ (by first | omega | (simp; done) | (simp; omega)) (by omega) (Nat.zero_le _) rfl) ⟨ab, ao, none⟩ n cap (ints zs) (by rfl) (by rw [ints_length, HZ.out, Nat.mul_one]) (Reads.news (HR.out.on (by (repeat (first | assumption | exact Ext.refl _ | (with_reducible refine Ext.stepS ?_ (by first | exact Nat.le_refl _ | (simp; done) | (simp; omega)) _) | (with_reducible refine Ext.stepN ?_ _) | (with_reducible refine Ext.stepD ?_) | (with_reducible refine Ext.stepA ?_ _)))))) (ints_one zs) hn0 (by unfold maxLen; omega) (by omega) (by first | omega | (simp; done) | (simp; omega)) (w.heap.size + 2) (by first | omega | (simp; done) | (simp; omega)) ?_; intro g c2 w1 hown1 hgrow hat hlt1; have EA : Ext w w1 := Below.grown (show Ext w _ by (repeat (first | assumption | exact Ext.refl _ | (with_reducible refine Ext.stepS ?_ (by first | exact Nat.le_refl _ | (simp; done) | (simp; omega)) _) | (with_reducible refine Ext.stepN ?_ _) | (with_reducible refine Ext.stepD ?_) | (with_reducible refine Ext.stepA ?_ _)))) hgrow (by first | omega | (simp; done) | (simp; omega)) (by intro j hj; simp [Value.ownBlock] at hj; omega); have KA := (HB.out.on EA).two; have RB := Lib.hid (show Box w1 w.heap.size 54 #[.int .i64 0, .slice none 0 0] from (hgrow.block w.heap.size (by first | omega | (simp; done) | (simp; omega)) (by simp [Value.ownBlock])).trans (Box.on HRS.out (by (repeat (first | assumption | exact Ext.refl _ | (with_reducible refine Ext.stepS ?_ (by first | exact Nat.le_refl _ | (simp; done) | (simp; omega)) _) | (with_reducible refine Ext.stepN ?_ _) | (with_reducible refine Ext.stepD ?_) | (with_reducible refine Ext.stepA ?_ _)))))); obtain ⟨z0, z1⟩ := RB.out.two; obtain ⟨y0, y1, y2, y3⟩ := RB.out.free; have OW := Lib.hid hown1; have AT := Lib.hid hat; clear hat; have EH := Lib.hid EA; clear hown1 hgrow))
  have OW2 := OW.out
  simp only [Nat.zero_add, List.nil_append] at OW2
  obtain ⟨a', c', he, ho⟩ := Own.of_row (e := 0) OW2
  cases he
  obtain ⟨g', f, hg', h1, h2, h3, h4, h5⟩ := ho.rowT hn0
  cases hg'
  have HRW := Lib.hid h5
  have hgl : w.heap.size + 1 ≤ g := by have := AT.out; simp [Value.ownBlock] at this; omega
  have HGL := Lib.hid hgl
  clear ho h5 OW2 hgl b0 b1
  go_wp2
  refine bodyPost_ret (v := .agg #[.int .i64 S, .slice (some ⟨g, 0, none⟩) n c2]) (by simp [results, Try.results83, go_sem, z0, z1]) rfl ⟨g, c2, f, rfl, by omega, h4, ?_, ?_⟩
  · exact (HRW.out.setOther (by have := HGL.out; simp; omega) _).setOther (by have := HGL.out; simp; omega) _
  · have EH' := EH.out
    (repeat (first | assumption | exact Ext.refl _ | (with_reducible refine Ext.stepS ?_ (by first | exact Nat.le_refl _ | (simp; done) | (simp; omega)) _) | (with_reducible refine Ext.stepN ?_ _) | (with_reducible refine Ext.stepD ?_) | (with_reducible refine Ext.stepA ?_ _)))
set_option maxHeartbeats 4000000 in
theorem c_spec_l04OwnFingers (b : Nat) (S : Int) (a : Option Addr) (n cap : Nat) (zs : List Int) (w : World) (hn0 : 0 < n) (hn4 : n ≤ 1048576) (hb : Box w b 41 #[.int .i64 S, .slice a n cap]) (h : Reads w a n (ints zs)) :
    Calls Try.prog 73 #[.pointer (some ⟨b, 0, none⟩)] w fun e w' => ∃ g c f, e = .returned (.agg #[.int .i64 S, .slice (some ⟨g, 0, none⟩) n c]) ∧ w.heap.size ≤ g ∧ n ≤ c ∧ w'.rowIs g 2 c (rowT zs f) ∧ Ext w w' := by
  obtain ⟨i0, hi, hz0, hz1, hz2⟩ := info_parts info_i64
  have hl := h.int.1
  obtain ⟨ab, ao, rfl⟩ : ∃ b off, a = some ⟨b, off, none⟩ := by
    rcases h.2 with h0 | ⟨b', off', rfl, _⟩
    · omega
    · exact ⟨_, _, rfl⟩
  have HR := Lib.hid h
  have HB := Lib.hid hb
  have HZ := Lib.hid hl
  have hlt := hb.lt
  have hbw : b ≠ w.heap.size := by omega
  have hbw' : w.heap.size ≠ b := by omega
  have HBR := Lib.hid (hb.on (Ext.alloc w (.cells #[.int .i64 0, .slice none 0 0] 41)))
  have HRS := Lib.hid (Box.alloc w #[.int .i64 0, .slice none 0 0] 41)
  obtain ⟨b0, b1⟩ := HB.out.two
  clear h hb hl
  go_enter Try.func73, Try.ntmps73
  go_wp2_with fail
  go_region_held3 (fun w' => w'.cell? ⟨b, 0, none⟩ = some (.int .i64 S) ∧ w'.cell? ⟨b, 1, none⟩ = some (.slice (some ⟨ab, ao, none⟩) n cap)) (first | exact KA | go_keep)
    (first | (refine step_append_lies _ (by rfl) _ _ 22 (by rfl) w.heap.size 2 i0 _ 1 8 Try.underlying22 hi hz0 hz1 hz2 rfl (by decide) (.slice (some ⟨w.heap.size + 1, 0, none⟩) 0 0) 0 [] (by rfl) (made_at _ _ _ (by first | omega | (simp; done) | (simp; omega)) (by omega) (Nat.zero_le _) rfl) ⟨ab, ao, none⟩ n cap (ints zs) (by rfl) (by rw [ints_length, HZ.out, Nat.mul_one]) (Reads.news (HR.out.on (by (repeat (first | assumption | exact Ext.refl _ | (with_reducible refine Ext.stepS ?_ (by first | exact Nat.le_refl _ | (simp; done) | (simp; omega)) _) | (with_reducible refine Ext.stepN ?_ _) | (with_reducible refine Ext.stepD ?_) | (with_reducible refine Ext.stepA ?_ _)))))) (ints_one zs) hn0 (by unfold maxLen; omega) (by omega) (by first | omega | (simp; done) | (simp; omega)) (w.heap.size + 2) (by first | omega | (simp; done) | (simp; omega)) ?_; intro g c2 w1 hown1 hgrow hat hlt1; have EA : Ext w w1 := Below.grown (show Ext w _ by (repeat (first | assumption | exact Ext.refl _ | (with_reducible refine Ext.stepS ?_ (by first | exact Nat.le_refl _ | (simp; done) | (simp; omega)) _) | (with_reducible refine Ext.stepN ?_ _) | (with_reducible refine Ext.stepD ?_) | (with_reducible refine Ext.stepA ?_ _)))) hgrow (by first | omega | (simp; done) | (simp; omega)) (by intro j hj; simp [Value.ownBlock] at hj; omega); have KA := (HB.out.on EA).two; have RB := Lib.hid (show Box w1 w.heap.size 41 #[.int .i64 0, .slice none 0 0] from (hgrow.block w.heap.size (by first | omega | (simp; done) | (simp; omega)) (by simp [Value.ownBlock])).trans (Box.on HRS.out (by (repeat (first | assumption | exact Ext.refl _ | (with_reducible refine Ext.stepS ?_ (by first | exact Nat.le_refl _ | (simp; done) | (simp; omega)) _) | (with_reducible refine Ext.stepN ?_ _) | (with_reducible refine Ext.stepD ?_) | (with_reducible refine Ext.stepA ?_ _)))))); obtain ⟨z0, z1⟩ := RB.out.two; obtain ⟨y0, y1, y2, y3⟩ := RB.out.free; have OW := Lib.hid hown1; have AT := Lib.hid hat; clear hat; have EH := Lib.hid EA; clear hown1 hgrow))
  have OW2 := OW.out
  simp only [Nat.zero_add, List.nil_append] at OW2
  obtain ⟨a', c', he, ho⟩ := Own.of_row (e := 0) OW2
  cases he
  obtain ⟨g', f, hg', h1, h2, h3, h4, h5⟩ := ho.rowT hn0
  cases hg'
  have HRW := Lib.hid h5
  have hgl : w.heap.size + 1 ≤ g := by have := AT.out; simp [Value.ownBlock] at this; omega
  have HGL := Lib.hid hgl
  clear ho h5 OW2 hgl b0 b1
  go_wp2
  refine bodyPost_ret (v := .agg #[.int .i64 S, .slice (some ⟨g, 0, none⟩) n c2]) (by simp [results, Try.results73, go_sem, z0, z1]) rfl ⟨g, c2, f, rfl, by omega, h4, ?_, ?_⟩
  · exact (HRW.out.setOther (by have := HGL.out; simp; omega) _).setOther (by have := HGL.out; simp; omega) _
  · have EH' := EH.out
    (repeat (first | assumption | exact Ext.refl _ | (with_reducible refine Ext.stepS ?_ (by first | exact Nat.le_refl _ | (simp; done) | (simp; omega)) _) | (with_reducible refine Ext.stepN ?_ _) | (with_reducible refine Ext.stepD ?_) | (with_reducible refine Ext.stepA ?_ _)))
end Go.Proofs.Ytfolflkbpdbkcab
