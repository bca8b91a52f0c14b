/- LeastHashes by the other side: numbers put in one after the other. -/
import Derived.Test.YtplngjbllllanaaDoorLdi
import Derived.Test.YtplngjbllllanaaDoorKin
import Derived.Deep.RegionWith
import Derived.Deep.LoopGhost
namespace Go.Proofs.YtplngjbllllanaaDoor
open Go.ChangeShapes Go.WideShapes Go.ChangeAt Go.RowKit
set_option linter.unusedVariables false
theorem owns_parts {w : World} {base n : Nat} {t : TypeId} {v : Value} {xs : List Value} (h : w.ownsRow base t 1 v n xs) :
    (v = .slice none 0 0 ∧ n = 0) ∨ ∃ g c f, v = .slice (some ⟨g, 0, none⟩) n c ∧ base ≤ g ∧ n ≤ c ∧ c ≤ maxLen ∧ w.rowIs g t c f ∧ ∀ i, i < n → xs[i]? = some (f i) := by
  rcases h.2 with h0 | ⟨g, cap, cur, rfl, hb, hg, hn, hm, hs, ht⟩
  · exact .inl h0
  · refine .inr ⟨g, cap, fun i => cur[i]?.getD default, rfl, hb, hn, hm, ⟨cur, hg, by simpa using hs, fun i hi => ?_⟩, fun i hi => ?_⟩
    · have : i < cur.size := by omega
      show cur[i]? = some (cur[i]?.getD default)
      rw [Array.getElem?_eq_getElem this]; rfl
    · have : i < cur.size := by omega
      show xs[i]? = some (cur[i]?.getD default)
      rw [← ht, List.getElem?_take, if_pos (by omega), Array.getElem?_toList, Array.getElem?_eq_getElem this]; rfl
theorem owns_of_row {w : World} {base g c n : Nat} {t : TypeId} {f : Nat → Value} {xs : List Value} (hr : w.rowIs g t c f) (hb : base ≤ g) (hn : n ≤ c) (hc : c ≤ maxLen) (hx : xs.length = n) (hf : ∀ i, i < n → xs[i]? = some (f i)) :
    w.ownsRow base t 1 (.slice (some ⟨g, 0, none⟩) n c) n xs := by
  obtain ⟨cs, h1, h2, h3⟩ := hr
  refine ⟨by omega, .inr ⟨g, c, cs, rfl, hb, h1, hn, hc, by omega, ?_⟩⟩
  apply List.ext_getElem?
  intro i
  rw [Nat.mul_one, List.getElem?_take]
  by_cases hi : i < n
  · rw [if_pos hi, Array.getElem?_toList, h3 i (by omega), hf i hi]
  · rw [if_neg hi, List.getElem?_eq_none (by omega)]
theorem owns_on {w w' : World} {base n : Nat} {t : TypeId} {v : Value} {xs : List Value} (h : w.ownsRow base t 1 v n xs) (e : Ext w w') : w'.ownsRow base t 1 v n xs := by
  refine ⟨h.1, ?_⟩
  rcases h.2 with h0 | ⟨g, cap, cur, rfl, hb, hg, rest⟩
  · exact .inl h0
  · exact .inr ⟨g, cap, cur, rfl, hb, by rw [Below.block e g (Array.getElem?_eq_some_iff.1 hg).1]; exact hg, rest⟩
/-- how many at the front lie below a number -/
def belowC (x : Int) : List Int → Nat
  | [] => 0
  | y :: ys => if y < x then belowC x ys + 1 else 0
theorem belowC_yes {x y : Int} {ys : List Int} (h : y < x) : belowC x (y :: ys) = belowC x ys + 1 := if_pos h
theorem belowC_no {x y : Int} {ys : List Int} (h : ¬ y < x) : belowC x (y :: ys) = 0 := if_neg h
theorem belowC_le (x : Int) : ∀ L : List Int, belowC x L ≤ L.length
  | [] => Nat.le_refl _
  | y :: ys => by
    have := belowC_le x ys
    by_cases h : y < x
    · rw [belowC_yes h, List.length_cons]; omega
    · rw [belowC_no h]; exact Nat.zero_le _
theorem belowC_lo (x : Int) : ∀ (L : List Int) (i : Nat), i < belowC x L → getI L i < x
  | [], i, h => absurd h (Nat.not_lt_zero _)
  | y :: ys, i, h => by
    by_cases hy : y < x
    · rw [belowC_yes hy] at h
      cases i with
      | zero => exact hy
      | succ i => exact belowC_lo x ys i (by omega)
    · rw [belowC_no hy] at h; exact absurd h (Nat.not_lt_zero _)
theorem belowC_hi (x : Int) : ∀ L : List Int, belowC x L < L.length → x ≤ getI L (belowC x L)
  | [], h => absurd h (Nat.not_lt_zero _)
  | y :: ys, h => by
    by_cases hy : y < x
    · rw [belowC_yes hy] at h ⊢
      exact belowC_hi x ys (by rw [List.length_cons] at h; omega)
    · rw [belowC_no hy]; show x ≤ y; omega
theorem belowC_take (x : Int) (L : List Int) : ∀ y ∈ L.take (belowC x L), y < x := by
  intro y hy
  obtain ⟨i, hi, rfl⟩ := List.getElem_of_mem hy
  rw [List.length_take] at hi
  rw [List.getElem_take]
  have := belowC_lo x L i (by omega)
  unfold getI at this
  rwa [List.getElem?_eq_getElem (by omega)] at this
theorem belowC_drop {x : Int} {L : List Int} (hs : L.Pairwise (fun a b => a < b)) (hne : belowC x L < L.length → getI L (belowC x L) ≠ x) : ∀ y ∈ L.drop (belowC x L), x < y := by
  intro y hy
  obtain ⟨i, hi, rfl⟩ := List.getElem_of_mem hy
  rw [List.length_drop] at hi
  rw [List.getElem_drop]
  have hp : belowC x L < L.length := by omega
  have h1 := belowC_hi x L hp
  have h2 := hne hp
  unfold getI at h1 h2
  rw [List.getElem?_eq_getElem hp] at h1 h2
  simp only [Option.getD_some] at h1 h2
  have h3 := List.pairwise_iff_getElem.1 hs
  by_cases e : i = 0
  · subst e; simp only [Nat.add_zero]; omega
  · have := h3 (belowC x L) (belowC x L + i) hp (by omega) (by omega); omega
/-- the row while numbers are moved up: below j as it was, above j moved up by one -/
structure UpTo (L : List Int) (j : Nat) (M : List Int) : Prop where
  n : M.length = L.length + 1
  lo : ∀ i, i < j → getI M i = getI L i
  hi : ∀ i, j < i → i ≤ L.length → getI M i = getI L (i - 1)
theorem getI_set (M : List Int) (k i : Nat) (v : Int) (hk : k < M.length) : getI (M.set k v) i = if i = k then v else getI M i := by
  unfold getI
  rw [List.getElem?_set]
  by_cases e : k = i
  · subst e; rw [if_pos rfl, if_pos rfl, if_pos hk]; rfl
  · rw [if_neg e, if_neg (Ne.symm e)]
theorem UpTo.start (L : List Int) (y : Int) : UpTo L L.length (L ++ [y]) :=
  ⟨by simp, fun i hi => by unfold getI; rw [List.getElem?_append_left hi], fun i h1 h2 => by omega⟩
theorem UpTo.step {L M : List Int} {j : Nat} (h : UpTo L (j + 1) M) (hj : j + 1 ≤ L.length) : UpTo L j (M.set (j + 1) (getI M j)) := by
  refine ⟨by rw [List.length_set]; exact h.n, fun i hi => ?_, fun i h1 h2 => ?_⟩
  · rw [getI_set _ _ _ _ (by rw [h.n]; omega), if_neg (by omega)]; exact h.lo i (by omega)
  · rw [getI_set _ _ _ _ (by rw [h.n]; omega)]
    by_cases e : i = j + 1
    · rw [if_pos e, e, h.lo j (by omega)]; rfl
    · rw [if_neg e]; exact h.hi i (by omega) h2
theorem UpTo.put {L M : List Int} {p : Nat} {x : Int} (h : UpTo L p M) (hp : p ≤ L.length) : M.set p x = L.take p ++ x :: L.drop p := by
  apply List.ext_getElem?
  intro i
  have hl : (L.take p ++ x :: L.drop p).length = L.length + 1 := by rw [List.length_append, List.length_cons, List.length_take, List.length_drop]; omega
  by_cases hi : i < L.length + 1
  · have h1 : getI (M.set p x) i = getI (L.take p ++ x :: L.drop p) i := by
      rw [getI_set _ _ _ _ (by rw [h.n]; omega)]
      by_cases e : i = p
      · rw [if_pos e, e]; unfold getI; rw [List.getElem?_append_right (by rw [List.length_take]; omega)]
        rw [show p - (L.take p).length = 0 by rw [List.length_take]; omega]; rfl
      · rw [if_neg e]
        by_cases g : i < p
        · rw [h.lo i g]; unfold getI; rw [List.getElem?_append_left (by rw [List.length_take]; omega), List.getElem?_take_of_lt g]
        · rw [h.hi i (by omega) (by omega)]; unfold getI
          rw [List.getElem?_append_right (by rw [List.length_take]; omega), show i - (L.take p).length = (i - 1 - p) + 1 by rw [List.length_take]; omega, List.getElem?_cons_succ, List.getElem?_drop, show p + (i - 1 - p) = i - 1 by omega]
    unfold getI at h1
    rw [List.getElem?_eq_getElem (by rw [List.length_set, h.n]; omega), List.getElem?_eq_getElem (by omega)] at h1 ⊢
    simpa using h1
  · rw [List.getElem?_eq_none (by rw [List.length_set, h.n]; omega), List.getElem?_eq_none (by omega)]
theorem leastD_snoc (q : Nat) (zs : List Int) (k : Nat) (hk : k < zs.length) {x : Int} (hx : getI zs k = x) : leastD q (zs.take (k + 1)) = leastD q (zs.take k ++ [x]) := by
  rw [List.take_succ_eq_append_getElem hk]
  unfold getI at hx
  rw [List.getElem?_eq_getElem hk] at hx
  simp only [Option.getD_some] at hx
  rw [hx]
theorem touch1 {w u : World} {g : Nat} (h : Touch g (g + 1) w u) (i : Nat) (v : Value) : Touch g (g + 1) w (u.setCell ⟨g, i, none⟩ v) := h.trans (Touch.setCell _ (a := ⟨g, i, none⟩) (Nat.le_refl _) (Nat.lt_succ_self _) _)
theorem one_cell_dr (w : World) (o : Value) (t : TypeId) (n : Nat) : ∀ (j : Nat) (u : Value), [o][j]? = some u → ((w.drewN n).alloc (.cells #[o] t)).cell? ⟨w.heap.size, j, none⟩ = some u := by
  intro j u hj
  cases j with
  | zero => exact one_cell_at (w.drewN n) o t 0 u hj
  | succ j => simp at hj
theorem ints_snoc1 (L : List Int) (y : Int) : ints (L ++ [y]) = ints L ++ [.int .i64 y] := by unfold ints; rw [List.map_append]; rfl
set_option maxRecDepth 100000 in
set_option maxHeartbeats 4000000 in
theorem c_spec_l04Least (a : Option Addr) (n cap : Nat) (zs : List Int) (room : Int) (w : World) (hn : n ≤ 1048576) (r1 : 1 ≤ room) (r2 : room ≤ 256) (h : Reads w a n (ints zs)) :
    Calls Tryd.prog 39 #[.slice a n cap, .int .i64 room] w (RetS 2 (leastD room.toNat zs).length (ints (leastD room.toNat zs)) w) := by
  obtain ⟨rfl, hr⟩ := h.int
  obtain ⟨q, hq⟩ : ∃ q : Nat, room.toNat = q := ⟨_, rfl⟩
  obtain rfl : room = (q : Int) := by omega
  rw [hq]
  have hq1 : 1 ≤ q := by omega
  have hq2 : q ≤ 256 := by omega
  obtain ⟨i0, hi, hz0, hz1, hz2⟩ := info_parts info_i64
  have HR := Lib.hid hr
  have HN := Lib.hid hn
  clear hr h hq r1 r2
  go_enter Tryd.func39, Tryd.ntmps39
  go_wp2
  go_loopw [5, 6] (fun v i wr => ∃ k : Nat, k ≤ zs.length ∧ i = .int .i64 k ∧ wr.ownsRow w.heap.size 2 1 v (leastD q (zs.take k)).length (ints (leastD q (zs.take k))) ∧ Ext w wr) (fun _ i _ => zs.length - (intOf i).toNat)
  case atStart => exact ⟨0, Nat.zero_le _, rfl, by rw [List.take_zero, leastD_nil]; exact World.ownsRow_made _ _ _ (Nat.le_refl _) (Nat.zero_le _) rfl, Ext.alloc _ _⟩
  case round =>
    obtain ⟨k, hk, rfl, hown, hext⟩ := hrel
    have HE := Lib.hid hext
    by_cases hlt : k < zs.length
    · have hlt' : (k : Int) < (zs.length : Int) := by omega
      rcases HR.out with h0 | ⟨b, off, rfl, hc⟩
      · omega
      have hcell : wr.cell? ⟨b, off + k, none⟩ = some (.int .i64 (zs[k]?.getD 0)) := HE.out.some (hc k hlt)
      obtain ⟨x, hx⟩ : ∃ x, zs[k]?.getD 0 = x := ⟨_, rfl⟩
      rw [hx] at hcell
      have HC0 := Lib.hid (show w.cell? ⟨b, off + k, none⟩ = some (.int .i64 x) by rw [← hx]; exact hc k hlt)
      have HX := Lib.hid (show getI zs k = x from hx)
      obtain ⟨L, hL⟩ : ∃ L, leastD q (zs.take k) = L := ⟨_, rfl⟩
      have hLn : L.length ≤ q := by rw [← hL]; exact leastD_le _ _
      have HLS := Lib.hid (show L.Pairwise (fun a b => a < b) by rw [← hL]; exact (leastD_ok _ _).s)
      have HNX := Lib.hid (show leastD q (zs.take (k + 1)) = leastD q (zs.take k ++ [x]) from leastD_snoc q zs k hlt hx)
      rw [hL] at hown
      have HL := Lib.hid hL
      obtain ⟨a0, c0, rfl, ho⟩ := Own.of_row (e := 0) hown
      have HW := Lib.hid ho
      have HA := Lib.hid ho.reads
      obtain ⟨nL, hnL⟩ : ∃ m, L.length = m := ⟨_, rfl⟩
      have HO := Lib.hid (show wr.ownsRow w.heap.size 2 1 (.slice a0 nL c0) nL (ints L) by rw [← hnL]; exact hown)
      rw [hnL] at hLn ⊢
      have HNL := Lib.hid hnL
      obtain ⟨p, hp⟩ : ∃ p, belowC x L = p := ⟨_, rfl⟩
      have hpl : p ≤ nL := by rw [← hp, ← hnL]; exact belowC_le x L
      have HP := Lib.hid hp
      clear hc hext hx hown hL ho hnL hp
      go_wp2
      generalize hwr0 : wr = wr0 at *
      go_loopw [7] (fun t wq => ∃ j : Nat, j ≤ p ∧ t = .int .i64 j ∧ Ext wr0 wq) (fun t _ => p - (intOf t).toNat)
      case atStart => exact ⟨0, Nat.zero_le _, rfl, Ext.refl _⟩
      case round =>
        obtain ⟨j, hj, rfl, hext⟩ := hrel
        have HQ := Lib.hid hext
        have hcell2 : wr.cell? ⟨b, off + k, none⟩ = some (.int .i64 x) := HQ.out.some hcell
        by_cases hjp : j < p
        · have hjn : j < nL := by omega
          have hjn' : (j : Int) < (nL : Int) := by omega
          obtain ⟨z, hz⟩ : ∃ z, L[j]?.getD 0 = z := ⟨_, rfl⟩
          have hzx : z < x := by have h1 := belowC_lo x L j (by rw [HP.out]; exact hjp); unfold getI at h1; rwa [hz] at h1
          rcases (HA.out.on HQ.out).int.2 with h0 | ⟨g, o0, rfl, hcg⟩
          · have := HNL.out; omega
          have hcz : wr.cell? ⟨g, o0 + j, none⟩ = some (.int .i64 z) := by rw [hcg j (by rw [HNL.out]; exact hjn), hz]
          clear hz hcg hext
          go_upto_region 6 with fail
          go_quiet (fail)
          go_wp2
          go_roundw
          case rel => exact ⟨j + 1, by omega, by go_num, HQ.out.trans (by (repeat (first | assumption | exact Ext.refl _ | (with_reducible refine Ext.stepS ?_ (by first | exact Nat.le_refl _ | (simp; done) | (simp; omega)) _) | (with_reducible refine Ext.stepN ?_ _) | (with_reducible refine Ext.stepD ?_) | (with_reducible refine Ext.stepA ?_ _))))⟩
          case measure => simp [intOf]; omega
        · have hjp' : j = p := by omega
          subst hjp'
          by_cases hjn : j < nL
          · have hjn' : (j : Int) < (nL : Int) := by omega
            obtain ⟨z, hz⟩ : ∃ z, L[j]?.getD 0 = z := ⟨_, rfl⟩
            have hxz : x ≤ z := by have h1 := belowC_hi x L (by rw [HP.out, HNL.out]; exact hjn); unfold getI at h1; rwa [HP.out, hz] at h1
            have HZ := Lib.hid (show getI L j = z from hz)
            rcases (HA.out.on HQ.out).int.2 with h0 | ⟨g0, o0, rfl, hcg⟩
            · have := HNL.out; omega
            have hcz : wr.cell? ⟨g0, o0 + j, none⟩ = some (.int .i64 z) := by rw [hcg j (by rw [HNL.out]; exact hjn), hz]
            have hzx : ¬ z < x := by omega
            clear hz hcg hext
            by_cases hzz : z = x
            · have HOLD := Lib.hid (show leastD q (zs.take (k + 1)) = L by
                rw [HNX.out, leastD_old (by
                  rw [HL.out]
                  have h1 := HZ.out
                  unfold getI at h1
                  rw [List.getElem?_eq_getElem (by rw [HNL.out]; exact hjn)] at h1
                  simp only [Option.getD_some] at h1
                  rw [← hzz, ← h1]; exact List.getElem_mem _), HL.out])
              subst hzz
              go_upto_region 6 with fail
              go_quiet (fail)
              go_upto_region 8 with fail
              go_quiet (fail)
              go_wp2
              go_roundw
              case rel => exact ⟨k + 1, by omega, by go_num, by rw [HOLD.out, HNL.out]; exact owns_on HO.out (HQ.out.trans (by (repeat (first | assumption | exact Ext.refl _ | (with_reducible refine Ext.stepS ?_ (by first | exact Nat.le_refl _ | (simp; done) | (simp; omega)) _) | (with_reducible refine Ext.stepN ?_ _) | (with_reducible refine Ext.stepD ?_) | (with_reducible refine Ext.stepA ?_ _))))), (HE.out.trans HQ.out).trans (by (repeat (first | assumption | exact Ext.refl _ | (with_reducible refine Ext.stepS ?_ (by first | exact Nat.le_refl _ | (simp; done) | (simp; omega)) _) | (with_reducible refine Ext.stepN ?_ _) | (with_reducible refine Ext.stepD ?_) | (with_reducible refine Ext.stepA ?_ _))))⟩
              case measure => simp [intOf]; omega
            · have HNE := Lib.hid (show belowC x L < L.length → getI L (belowC x L) ≠ x from fun _ => by rw [HP.out, HZ.out]; exact hzz)
              go_upto_region 6 with fail
              go_quiet (fail)
              go_upto_region 8 with fail
              go_quiet (fail)
              have HNW := Lib.hid (show leastD q (zs.take (k + 1)) = (L.take j ++ x :: L.drop j).take q by
                rw [HNX.out, leastD_new (p := j) (by rw [HL.out, HNL.out]; exact hpl) (by rw [HL.out, ← HP.out]; exact belowC_take x L) (by rw [HL.out, ← HP.out]; exact belowC_drop HLS.out HNE.out), HL.out])
              go_wp2_with (at_builtin; refine wpList_append_own _ rfl _ _ 22 rfl w.heap.size 2 i0 (.int .i64 0) 1 8 Tryd.underlying22 hi hz0 hz1 hz2 rfl (by decide) _ _ _ rfl ((owns_on HO.out ?c0).alloc _) ⟨_, 0, none⟩ 1 1 [.int .i64 0] rfl rfl ?c1 ?c2 ?c3 ?c4 ?c5 ?_)
              case c0 => exact HQ.out.trans (by (repeat (first | assumption | exact Ext.refl _ | (with_reducible refine Ext.stepS ?_ (by first | exact Nat.le_refl _ | (simp; done) | (simp; omega)) _) | (with_reducible refine Ext.stepN ?_ _) | (with_reducible refine Ext.stepD ?_) | (with_reducible refine Ext.stepA ?_ _))))
              case c1 => first | exact one_cell_at _ _ _ | exact one_cell_dr _ _ _ _
              case c2 => first | rfl | (intro u hu; simp at hu; subst hu; rfl)
              case c3 => unfold maxLen; have := HNL.out; omega
              case c4 => have := HNL.out; omega
              case c5 => have := HE.out.size; have := HQ.out.size; simp; omega
              intro v' w1 hown' hgrow _
              have HX1 := Lib.hid (app_step ((HE.out.trans HQ.out).trans (Ext.drewN _ _)) (owns_on HO.out (HQ.out.trans (Ext.drewN _ _))) hgrow)
              rcases owns_parts hown' with ⟨_, h0⟩ | ⟨g, c, f, rfl, hg, hnc, hcm, hrow, hf⟩
              · omega
              have HROW := Lib.hid (show w1.rowIs g 2 c (rowT (L ++ [0]) f) from hrow.congr fun i hi => by
                unfold rowT
                by_cases h1 : i < (L ++ [0]).length
                · rw [if_pos h1]
                  have h2 := hf i (by rw [List.length_append, List.length_singleton, HNL.out] at h1; exact h1)
                  rw [← ints_snoc1, ints_get _ _ h1] at h2
                  exact (Option.some.inj h2).symm
                · rw [if_neg h1])
              have HG := Lib.hid hg
              have e1 : ((nL : Int) + 1 - 1) = (nL : Int) := by omega
              have e2 : (0 : Int) ≤ (nL : Int) := by omega
              have e3 : (nL : Int) ≤ 256 := by omega
              clear hown' hgrow hrow hf hg
              go_wp2
              generalize hw2 : w1 = w2 at *
              go_loopw [8] (fun t wq => ∃ (m : Nat) (M : List Int), j ≤ m ∧ m ≤ nL ∧ t = .int .i64 m ∧ UpTo L m M ∧ wq.rowIs g 2 c (rowT M f) ∧ Touch g (g + 1) w2 wq) (fun t _ => (intOf t).toNat)
              case atStart => exact ⟨nL, L ++ [0], hpl, Nat.le_refl _, rfl, by have h := UpTo.start L 0; rw [HNL.out] at h; exact h, HROW.out, Touch.refl _ _ _⟩
              case round =>
                obtain ⟨m, M, hjm, hmn, rfl, hup, hrow, ht⟩ := hrel
                have HU := Lib.hid hup
                have HRW := Lib.hid hrow
                have HT := Lib.hid ht
                have HML := Lib.hid (show M.length = nL + 1 by rw [hup.n, HNL.out])
                clear hup hrow ht
                by_cases hm : j < m
                · obtain ⟨m', hm'⟩ : ∃ m', m = m' + 1 := ⟨m - 1, by omega⟩
                  have HM := Lib.hid hm'
                  obtain ⟨y, hy⟩ : ∃ y, M[m']?.getD 0 = y := ⟨_, rfl⟩
                  have c1 := HRW.out.cell (i := m') (by omega)
                  rw [rowT_at (by rw [HML.out]; omega), hy] at c1
                  have c2 := HRW.out.cell (i := m) (by omega)
                  have f2 := HRW.out.frozen m
                  have HSET := Lib.hid (show (wr.setCell ⟨g, m, none⟩ (.int .i64 y)).rowIs g 2 c (rowT (M.set m y) f) from rowT_set HRW.out (by rw [HML.out]; omega) y)
                  have HUS := Lib.hid (show UpTo L m' (M.set m y) by
                    have h := HU.out
                    rw [HM.out] at h ⊢
                    rw [← hy]
                    exact h.step (by rw [HNL.out]; have := HM.out; omega))
                  have e4 : (m : Int) - 1 = (m' : Int) := by omega
                  have e5 : (j : Int) < (m : Int) := by omega
                  have e6 : (m' : Int) < (nL : Int) + 1 := by omega
                  have e7 : (m : Int) < (nL : Int) + 1 := by omega
                  have e8 : (0 : Int) ≤ (m' : Int) := by omega
                  have e9 : (m : Int) ≤ 256 := by omega
                  clear hy hm'
                  go_wp2
                  go_roundw
                  case rel => exact ⟨m', _, by have := HM.out; omega, by have := HM.out; omega, by go_num, HUS.out, HSET.out, touch1 HT.out _ _⟩
                  case measure => have := HM.out; simp [intOf]; omega
                · have hmj : m = j := by omega
                  subst hmj
                  have X3 := Lib.hid (HT.out.ext HX1.out HG.out)
                  have cz := X3.out.some HC0.out
                  have c2 := HRW.out.cell (i := m) (by omega)
                  have f2 := HRW.out.frozen m
                  have HSET := Lib.hid (show (wr.setCell ⟨g, m, none⟩ (.int .i64 x)).rowIs g 2 c (rowT (L.take m ++ x :: L.drop m) f) by
                    rw [← HU.out.put (x := x) (by rw [HNL.out]; exact hmn)]
                    exact rowT_set HRW.out (by rw [HML.out]; omega) x)
                  have HXS := Lib.hid (show Ext w (wr.setCell ⟨g, m, none⟩ (.int .i64 x)) from (touch1 HT.out m (.int .i64 x)).ext HX1.out HG.out)
                  have HNN := Lib.hid (show (L.take m ++ x :: L.drop m).length = nL + 1 by have := HNL.out; rw [List.length_append, List.length_cons, List.length_take, List.length_drop]; omega)
                  have e7 : (m : Int) < (nL : Int) + 1 := by omega
                  have e5 : ¬ (m : Int) < (m : Int) := by omega
                  by_cases hqn : q < nL + 1
                  · have hqn' : (q : Int) < (nL : Int) + 1 := by omega
                    have hqc : q ≤ c := by omega
                    have hqc' : (q : Int) ≤ (c : Int) := by omega
                    have HREL := Lib.hid (show (wr.setCell ⟨g, m, none⟩ (.int .i64 x)).ownsRow w.heap.size 2 1 (.slice (some ⟨g, 0, none⟩) q c) (leastD q (zs.take (k + 1))).length (ints (leastD q (zs.take (k + 1)))) by
                      rw [HNW.out]
                      have hl : ((L.take m ++ x :: L.drop m).take q).length = q := by rw [List.length_take, HNN.out]; omega
                      rw [hl]
                      refine owns_of_row HSET.out HG.out hqc hcm (by rw [ints_length, hl]) fun i hi => ?_
                      rw [ints_get _ _ (by rw [hl]; exact hi), rowT_at (by rw [HNN.out]; omega), List.getElem?_take_of_lt hi])
                    clear hqn
                    go_wp2
                    go_roundw
                    case rel => exact ⟨k + 1, by omega, by go_num, HREL.out, HXS.out⟩
                    case measure => simp [intOf]; omega
                  · have hqn' : ¬ (q : Int) < (nL : Int) + 1 := by omega
                    have HREL := Lib.hid (show (wr.setCell ⟨g, m, none⟩ (.int .i64 x)).ownsRow w.heap.size 2 1 (.slice (some ⟨g, 0, none⟩) (nL + 1) c) (leastD q (zs.take (k + 1))).length (ints (leastD q (zs.take (k + 1)))) by
                      rw [HNW.out, List.take_of_length_le (by rw [HNN.out]; omega), HNN.out]
                      refine owns_of_row HSET.out HG.out hnc hcm (by rw [ints_length, HNN.out]) fun i hi => ?_
                      rw [ints_get _ _ (by rw [HNN.out]; exact hi), rowT_at (by rw [HNN.out]; omega)])
                    clear hqn
                    go_wp2
                    go_roundw
                    case rel => exact ⟨k + 1, by omega, by go_num, HREL.out, HXS.out⟩
                    case measure => simp [intOf]; omega
          · have hnp : ¬ (j : Int) < (nL : Int) := by omega
            have HNE := Lib.hid (show belowC x L < L.length → getI L (belowC x L) ≠ x from fun h => by rw [HP.out, HNL.out] at h; exact absurd h hjn)
            clear hext
            go_upto_region 6 with fail
            go_quiet (fail)
            go_upto_region 8 with fail
            go_quiet (fail)
            have HNW := Lib.hid (show leastD q (zs.take (k + 1)) = (L.take j ++ x :: L.drop j).take q by
              rw [HNX.out, leastD_new (p := j) (by rw [HL.out, HNL.out]; exact hpl) (by rw [HL.out, ← HP.out]; exact belowC_take x L) (by rw [HL.out, ← HP.out]; exact belowC_drop HLS.out HNE.out), HL.out])
            go_wp2_with (at_builtin; refine wpList_append_own _ rfl _ _ 22 rfl w.heap.size 2 i0 (.int .i64 0) 1 8 Tryd.underlying22 hi hz0 hz1 hz2 rfl (by decide) _ _ _ rfl ((owns_on HO.out ?c0).alloc _) ⟨_, 0, none⟩ 1 1 [.int .i64 0] rfl rfl ?c1 ?c2 ?c3 ?c4 ?c5 ?_)
            case c0 => exact HQ.out.trans (by (repeat (first | assumption | exact Ext.refl _ | (with_reducible refine Ext.stepS ?_ (by first | exact Nat.le_refl _ | (simp; done) | (simp; omega)) _) | (with_reducible refine Ext.stepN ?_ _) | (with_reducible refine Ext.stepD ?_) | (with_reducible refine Ext.stepA ?_ _))))
            case c1 => first | exact one_cell_at _ _ _ | exact one_cell_dr _ _ _ _
            case c2 => first | rfl | (intro u hu; simp at hu; subst hu; rfl)
            case c3 => unfold maxLen; have := HNL.out; omega
            case c4 => have := HNL.out; omega
            case c5 => have := HE.out.size; have := HQ.out.size; simp; omega
            intro v' w1 hown' hgrow _
            have HX1 := Lib.hid (app_step ((HE.out.trans HQ.out).trans (Ext.drewN _ _)) (owns_on HO.out (HQ.out.trans (Ext.drewN _ _))) hgrow)
            rcases owns_parts hown' with ⟨_, h0⟩ | ⟨g, c, f, rfl, hg, hnc, hcm, hrow, hf⟩
            · omega
            have HROW := Lib.hid (show w1.rowIs g 2 c (rowT (L ++ [0]) f) from hrow.congr fun i hi => by
              unfold rowT
              by_cases h1 : i < (L ++ [0]).length
              · rw [if_pos h1]
                have h2 := hf i (by rw [List.length_append, List.length_singleton, HNL.out] at h1; exact h1)
                rw [← ints_snoc1, ints_get _ _ h1] at h2
                exact (Option.some.inj h2).symm
              · rw [if_neg h1])
            have HG := Lib.hid hg
            have e1 : ((nL : Int) + 1 - 1) = (nL : Int) := by omega
            have e2 : (0 : Int) ≤ (nL : Int) := by omega
            have e3 : (nL : Int) ≤ 256 := by omega
            clear hown' hgrow hrow hf hg
            go_wp2
            generalize hw2 : w1 = w2 at *
            go_loopw [8] (fun t wq => ∃ (m : Nat) (M : List Int), j ≤ m ∧ m ≤ nL ∧ t = .int .i64 m ∧ UpTo L m M ∧ wq.rowIs g 2 c (rowT M f) ∧ Touch g (g + 1) w2 wq) (fun t _ => (intOf t).toNat)
            case atStart => exact ⟨nL, L ++ [0], hpl, Nat.le_refl _, rfl, by have h := UpTo.start L 0; rw [HNL.out] at h; exact h, HROW.out, Touch.refl _ _ _⟩
            case round =>
              obtain ⟨m, M, hjm, hmn, rfl, hup, hrow, ht⟩ := hrel
              have HU := Lib.hid hup
              have HRW := Lib.hid hrow
              have HT := Lib.hid ht
              have HML := Lib.hid (show M.length = nL + 1 by rw [hup.n, HNL.out])
              clear hup hrow ht
              by_cases hm : j < m
              · omega
              · have hmj : m = j := by omega
                subst hmj
                have X3 := Lib.hid (HT.out.ext HX1.out HG.out)
                have cz := X3.out.some HC0.out
                have c2 := HRW.out.cell (i := m) (by omega)
                have f2 := HRW.out.frozen m
                have HSET := Lib.hid (show (wr.setCell ⟨g, m, none⟩ (.int .i64 x)).rowIs g 2 c (rowT (L.take m ++ x :: L.drop m) f) by
                  rw [← HU.out.put (x := x) (by rw [HNL.out]; exact hmn)]
                  exact rowT_set HRW.out (by rw [HML.out]; omega) x)
                have HXS := Lib.hid (show Ext w (wr.setCell ⟨g, m, none⟩ (.int .i64 x)) from (touch1 HT.out m (.int .i64 x)).ext HX1.out HG.out)
                have HNN := Lib.hid (show (L.take m ++ x :: L.drop m).length = nL + 1 by have := HNL.out; rw [List.length_append, List.length_cons, List.length_take, List.length_drop]; omega)
                have e7 : (m : Int) < (nL : Int) + 1 := by omega
                have e5 : ¬ (m : Int) < (m : Int) := by omega
                by_cases hqn : q < nL + 1
                · have hqn' : (q : Int) < (nL : Int) + 1 := by omega
                  have hqc : q ≤ c := by omega
                  have hqc' : (q : Int) ≤ (c : Int) := by omega
                  have HREL := Lib.hid (show (wr.setCell ⟨g, m, none⟩ (.int .i64 x)).ownsRow w.heap.size 2 1 (.slice (some ⟨g, 0, none⟩) q c) (leastD q (zs.take (k + 1))).length (ints (leastD q (zs.take (k + 1)))) by
                    rw [HNW.out]
                    have hl : ((L.take m ++ x :: L.drop m).take q).length = q := by rw [List.length_take, HNN.out]; omega
                    rw [hl]
                    refine owns_of_row HSET.out HG.out hqc hcm (by rw [ints_length, hl]) fun i hi => ?_
                    rw [ints_get _ _ (by rw [hl]; exact hi), rowT_at (by rw [HNN.out]; omega), List.getElem?_take_of_lt hi])
                  clear hqn
                  go_wp2
                  go_roundw
                  case rel => exact ⟨k + 1, by omega, by go_num, HREL.out, HXS.out⟩
                  case measure => simp [intOf]; omega
                · have hqn' : ¬ (q : Int) < (nL : Int) + 1 := by omega
                  have HREL := Lib.hid (show (wr.setCell ⟨g, m, none⟩ (.int .i64 x)).ownsRow w.heap.size 2 1 (.slice (some ⟨g, 0, none⟩) (nL + 1) c) (leastD q (zs.take (k + 1))).length (ints (leastD q (zs.take (k + 1)))) by
                    rw [HNW.out, List.take_of_length_le (by rw [HNN.out]; omega), HNN.out]
                    refine owns_of_row HSET.out HG.out hnc hcm (by rw [ints_length, HNN.out]) fun i hi => ?_
                    rw [ints_get _ _ (by rw [HNN.out]; exact hi), rowT_at (by rw [HNN.out]; omega)])
                  clear hqn
                  go_wp2
                  go_roundw
                  case rel => exact ⟨k + 1, by omega, by go_num, HREL.out, HXS.out⟩
                  case measure => simp [intOf]; omega
    · have hkl : k = zs.length := by omega
      subst hkl
      rw [List.take_length] at hown
      obtain ⟨a', c', hv, ho⟩ := Own.of_row (e := 0) hown
      subst hv
      have HO' := Lib.hid ho
      clear ho hown hext
      go_wp2
      go_ret
      exact ⟨_, _, rfl, HO'.out, HE.out⟩
end Go.Proofs.YtplngjbllllanaaDoor
