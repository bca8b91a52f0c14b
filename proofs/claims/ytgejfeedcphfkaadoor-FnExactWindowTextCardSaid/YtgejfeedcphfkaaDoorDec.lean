/- The other side's decimal numeral: digits put in front by append. -/
import Derived.Test.YtgejfeedcphfkaaDoorRows
import Derived.Test.YtgejfeedcphfkaaDoorOwn
import Derived.ProofKit
import Derived.OpenShut
import Derived.Handy
import Derived.OwnWalk
import Derived.Lib.ItoaLen
import Derived.Laws.IdiomStrings
import Derived.WalkKit
import Derived.WalkLawsBesides
namespace Go.Proofs.YtgejfeedcphfkaaDoor
open Go.ChangeShapes Go.WideShapes Go.ChangeAt Go.RowKit Go.Lib
set_option linter.unusedVariables false
def Dst (N m : Nat) (acc : List UInt8) : Prop := (acc = [] ∧ m = N) ∨ (acc ≠ [] ∧ m = 0 ∧ acc = decDigits N) ∨ (acc ≠ [] ∧ m ≠ 0 ∧ decDigits N = decDigits m ++ acc)
theorem Dst.start (N : Nat) : Dst N N [] := .inl ⟨rfl, rfl⟩
theorem decDigits_big {u : Nat} (h : ¬ u < 10) : decDigits u = decDigits (u / 10) ++ [UInt8.ofNat (48 + u % 10)] := by rw [decDigits, dif_neg h]
theorem Dst.step {N m : Nat} {acc : List UInt8} (h : Dst N m acc) (hc : acc = [] ∨ m ≠ 0) : Dst N (m / 10) (UInt8.ofNat (48 + m % 10) :: acc) := by
  have key : decDigits N = decDigits m ++ acc := by
    rcases h with ⟨rfl, rfl⟩ | ⟨h1, h2, _⟩ | ⟨_, _, h3⟩
    · simp
    · rcases hc with h | h
      · exact absurd h h1
      · exact absurd h2 h
    · exact h3
  by_cases hm : m < 10
  · have h0 : m / 10 = 0 := by omega
    have h1 : m % 10 = m := by omega
    refine .inr (.inl ⟨by simp, h0, ?_⟩)
    rw [key, decDigits_one hm, h1]; rfl
  · refine .inr (.inr ⟨by simp, by omega, ?_⟩)
    rw [key, decDigits_big hm]; simp
theorem Dst.done {N : Nat} {acc : List UInt8} (h : Dst N 0 acc) (h1 : acc ≠ []) : acc = decDigits N := by
  rcases h with ⟨h, _⟩ | ⟨_, _, h⟩ | ⟨_, h, _⟩
  · exact absurd h h1
  · exact h
  · exact absurd rfl h
theorem Dst.len {N m : Nat} {acc : List UInt8} (h : Dst N m acc) (hN : N < 18446744073709551616) : acc.length ≤ 20 := by
  have hl : (decDigits N).length ≤ 20 := by rw [decDigits_length]; exact nDigits_le20 N hN
  rcases h with ⟨rfl, _⟩ | ⟨_, _, rfl⟩ | ⟨_, _, h⟩
  · simp
  · exact hl
  · have := congrArg List.length h
    rw [List.length_append] at this; omega
def bv (acc : List UInt8) : List Value := acc.map fun b => Value.int .u8 (b.toNat : Int)
theorem bv_length (acc : List UInt8) : (bv acc).length = acc.length := by simp [bv]
theorem bv_oneCell (acc : List UInt8) : ∀ u ∈ bv acc, u.oneCell' = true := by
  intro u hu
  obtain ⟨_, _, rfl⟩ := List.mem_map.1 hu
  rfl
theorem bv_get (acc : List UInt8) (j : Nat) (hj : j < acc.length) : (bv acc)[j]? = some (.int .u8 (acc[j].toNat : Int)) := by simp [bv, hj]
theorem bv_digit (E : Nat) (h : E < 10) (acc : List UInt8) : Value.int .u8 (48 + (E : Int)) :: bv acc = bv (UInt8.ofNat (48 + E) :: acc) := by
  have : (UInt8.ofNat (48 + E)).toNat = 48 + E := by simp; omega
  simp only [bv, List.map_cons, this]
  congr 2
theorem bv_minus (acc : List UInt8) : Value.int .u8 45 :: bv acc = bv (45 :: acc) := rfl
theorem own_lit (w : World) (x : Value) (e : TypeId) (base : Nat) (hb : base ≤ w.heap.size) : (w.alloc (.cells #[x] e)).ownsRow base e 1 (.slice (some ⟨w.heap.size, 0, none⟩) 1 1) 1 [x] :=
  ⟨rfl, .inr ⟨w.heap.size, 1, #[x], rfl, hb, heap_alloc_new w _, Nat.le_refl _, by unfold maxLen; omega, rfl, rfl⟩⟩
theorem lit_step {w wr w1 : World} {o : Obj} (hext : Ext w wr) (hg : (wr.alloc o).grownBy w1 (some wr.heap.size)) : Ext w w1 :=
  (Below.alloc hext hext.size o).grown hg (by have := hext.size; simp; omega) (fun j hj => by cases hj; exact hext.size)
theorem row_some {w : World} {base : Nat} {e : TypeId} {v : Value} {n : Nat} {xs : List Value} (h : w.ownsRow base e 1 v n xs) (hn : v ≠ .slice none 0 0) : ∃ g c, v = .slice (some ⟨g, 0, none⟩) n c := by
  rcases h.2 with ⟨rfl, _⟩ | ⟨g, c, cur, rfl, _⟩
  · exact absurd rfl hn
  · exact ⟨g, c, rfl⟩
theorem natAbs_tmod (r : Int) : (r.tmod 10).natAbs = r.natAbs % 10 := by rw [Int.natAbs_tmod]; rfl
theorem natAbs_tdiv (r : Int) : (r.tdiv 10).natAbs = r.natAbs / 10 := by rw [Int.natAbs_tdiv]; rfl
theorem itoa_no {n : Int} {acc : List UInt8} (h : ¬ n < 0) (ha : acc = decDigits n.natAbs) : itoa n = acc := by
  unfold itoa
  rw [if_neg h, ha]
  congr 1
  omega
theorem itoa_yes {n : Int} {acc : List UInt8} (h : n < 0) (ha : acc = decDigits n.natAbs) : itoa n = 45 :: acc := by
  unfold itoa
  rw [if_pos h, ha]
theorem at_off (g j : Nat) : (⟨g, 0, none⟩ : Addr).add j = ⟨g, j, none⟩ := by unfold Addr.add; split <;> simp_all
def lenOfV : Value → Nat | .slice _ n _ => n | _ => 0
theorem row_cells {w : World} {base g c : Nat} {e : TypeId} {acc : List UInt8} (h : w.ownsRow base e 1 (.slice (some ⟨g, 0, none⟩) acc.length c) acc.length (bv acc)) :
    ∀ j (hj : j < acc.length), w.cell? ((⟨g, 0, none⟩ : Addr).add j) = some (.int .u8 (acc[j].toNat : Int)) := fun j hj => h.cells (g := g) rfl j _ (bv_get acc j hj)
theorem info_u8 : (Tryd.prog.info? 5).map (fun i => (i.zero, i.size, i.bytes)) = some (some (.int .u8 0), 1, 1) := by kernel_rfl
theorem info_parts8 {t : TypeId} {z : Value} {s b : Nat} (h : (Tryd.prog.info? t).map (fun i => (i.zero, i.size, i.bytes)) = some (some z, s, b)) : ∃ i, Tryd.prog.info? t = some i ∧ i.zero = some z ∧ i.size = s ∧ i.bytes = b := by
  cases hi : Tryd.prog.info? t with
  | none => rw [hi] at h; cases h
  | some i => rw [hi] at h; simp at h; exact ⟨i, rfl, h.1, h.2.1, h.2.2⟩
set_option maxHeartbeats 2000000 in
theorem c_spec_l01Dec (n : Int) (w : World) (n0 : -9223372036854775808 ≤ n) (n1 : n ≤ 9223372036854775807) :
    Calls Tryd.prog 76 #[.int .i64 n] w fun e w' => e = .returned (.string ⟨(itoa n).toArray⟩) ∧ Ext w w' := by
  obtain ⟨i0, hi, hz0, hz1, hz2⟩ := info_parts8 info_u8
  go_enter Tryd.func76, Tryd.ntmps76
  go_wp2
  go_loopw [3, 4, 5] (fun v rv dv wr => ∃ (acc : List UInt8) (r : Int) (g c : Nat), v = .slice (some ⟨g, 0, none⟩) acc.length c ∧ rv = .int .i64 r ∧ Dst n.natAbs r.natAbs acc ∧ r.natAbs ≤ n.natAbs ∧ wr.ownsRow w.heap.size 5 1 v acc.length (bv acc) ∧ Ext w wr)
    (fun v rv _ _ => (intOf rv).natAbs + (1 - lenOfV v))
  case atStart => exact ⟨[], n, _, _, rfl, rfl, Dst.start _, Nat.le_refl _, World.ownsRow_made _ _ _ (Nat.le_refl _) (Nat.zero_le _) rfl, Ext.alloc _ _⟩
  case round =>
    obtain ⟨acc, r, g, c, rfl, rfl, hdst, hrl, hown, hext⟩ := hrel
    have hNl : n.natAbs < 18446744073709551616 := by omega
    have hal := hdst.len hNl
    have HD := Lib.hid hdst
    have HO := Lib.hid hown
    have HE := Lib.hid hext
    clear hdst hown hext
    by_cases hstop : acc ≠ [] ∧ r = 0
    · obtain ⟨ha, rfl⟩ := hstop
      have hDone := Lib.hid (Dst.done (N := n.natAbs) HD.out ha)
      have hb : ((acc.length : Int) == 0) = false := by
        have : acc.length ≠ 0 := fun h => ha (List.eq_nil_of_length_eq_zero h)
        simpa using this
      have hb2 : ¬ ((acc.length : Int) = 0) := by simpa using hb
      clear ha
      by_cases hneg : n < 0
      · have HI := Lib.hid (itoa_yes hneg hDone.out)
        go_wp2_with (at_builtin; refine wpList_append_own _ rfl _ _ 90 rfl w.heap.size 5 i0 (.int .u8 0) 1 1 Tryd.underlying90 hi hz0 hz1 hz2 rfl (by decide) _ _ _ rfl (own_lit wr _ _ _ HE.out.size) ⟨g, 0, none⟩ acc.length c (bv acc) rfl (by rw [bv_length, Nat.mul_one]) ?c1 ?c2 ?c3 ?c4 ?c5 ?_)
        case c1 => exact (HO.out.alloc _).cells (g := g) rfl
        case c2 => exact bv_oneCell acc
        case c3 => unfold maxLen; omega
        case c4 => omega
        case c5 => have := HE.out.size; simp; omega
        intro v' w1 hown' hgrow hnil
        obtain ⟨g', c', rfl⟩ := row_some hown' (fun h => hnil h)
        have HE' := Lib.hid (lit_step HE.out hgrow)
        obtain ⟨acc', hacc⟩ : ∃ acc', 45 :: acc = acc' := ⟨_, rfl⟩
        have hl : 1 + acc.length = acc'.length := by rw [← hacc]; simp; omega
        have hbv : Value.int .u8 45 :: bv acc = bv acc' := by rw [← hacc]; rfl
        rw [hbv, hl] at hown'
        have hcv := run_convert_bytes_back (P := Tryd.prog) w1 90 9 5 ⟨g', 0, none⟩ c' acc' Tryd.underlying90 Tryd.underlying5 Tryd.underlying9 (row_cells hown')
        rw [hl]
        have HI2 := Lib.hid (show itoa n = acc' by rw [HI.out, hacc])
        clear hacc hown' hbv hgrow hnil
        go_wp2
        go_ret
        exact ⟨by rw [HI2.out]; rfl, HE'.out⟩
      · have HI := Lib.hid (itoa_no hneg hDone.out)
        have hcv := run_convert_bytes_back (P := Tryd.prog) wr 90 9 5 ⟨g, 0, none⟩ c acc Tryd.underlying90 Tryd.underlying5 Tryd.underlying9 (row_cells HO.out)
        go_wp2
        go_ret
        exact ⟨by rw [HI.out]; rfl, HE.out⟩
    · have HGo := Lib.hid (show acc = [] ∨ r.natAbs ≠ 0 by
        by_cases h : acc = []
        · exact .inl h
        · exact .inr (fun h2 => hstop ⟨h, by omega⟩))
      have hmeas : acc.length = 0 ∨ r.natAbs ≠ 0 := by
        rcases HGo.out with h | h
        · exact .inl (by rw [h]; rfl)
        · exact .inr h
      clear hstop
      obtain ⟨D, hD⟩ : ∃ D, r.tmod 10 = D := ⟨_, rfl⟩
      obtain ⟨Q, hQ⟩ : ∃ Q, r.tdiv 10 = Q := ⟨_, rfl⟩
      obtain ⟨E, hE⟩ : ∃ E, r.natAbs % 10 = E := ⟨_, rfl⟩
      have hE10 : E < 10 := by omega
      have hDE : D.natAbs = E := by rw [← hD, natAbs_tmod, hE]
      have hQr : Q.natAbs = r.natAbs / 10 := by rw [← hQ, natAbs_tdiv]
      have hQ1 : -9223372036854775808 ≤ Q := by omega
      have hQ2 : Q ≤ 9223372036854775807 := by omega
      have HST := Lib.hid (show Dst n.natAbs Q.natAbs (UInt8.ofNat (48 + E) :: acc) by rw [hQr, ← hE]; exact HD.out.step HGo.out)
      have HQr := Lib.hid hQr
      have HM := Lib.hid hmeas
      clear hE hQr hmeas
      by_cases hcase : acc.length = 0
      · by_cases hDn : D < 0
        · have hb : ((acc.length : Int) == 0) = true := by rw [hcase]; rfl
          have hb2 : (acc.length : Int) = 0 := by simpa using hb
          have HDD := Lib.hid (show D = -(E : Int) by omega)
          have hD1 : -9 ≤ D := by omega
          have hD2 : D ≤ 9 := by omega
          have HRL := Lib.hid hrl
          clear hcase hDE hrl
          go_wp2_with (at_builtin; refine wpList_append_own _ rfl _ _ 90 rfl w.heap.size 5 i0 (.int .u8 0) 1 1 Tryd.underlying90 hi hz0 hz1 hz2 rfl (by decide) _ _ _ rfl (own_lit wr _ _ _ HE.out.size) ⟨g, 0, none⟩ acc.length c (bv acc) rfl (by rw [bv_length, Nat.mul_one]) ?c1 ?c2 ?c3 ?c4 ?c5 ?_)
          case c1 => first | exact (HO.out.alloc _).cells (g := g) rfl | (intro j u hj; have := (HO.out.alloc (.cells #[.int .u8 (48 + D)] 5)).cells (g := g) rfl j u hj; rw [at_off] at this; exact this)
          case c2 => exact bv_oneCell acc
          case c3 => unfold maxLen; omega
          case c4 => omega
          case c5 => have := HE.out.size; simp; omega
          intro v' w1 hown' hgrow hnil
          obtain ⟨g', c', rfl⟩ := row_some hown' (fun h => hnil h)
          have HE' := Lib.hid (lit_step HE.out hgrow)
          obtain ⟨acc', hacc⟩ : ∃ acc', UInt8.ofNat (48 + E) :: acc = acc' := ⟨_, rfl⟩
          have hl : 1 + acc.length = acc'.length := by rw [← hacc]; simp; omega
          have hbv : Value.int .u8 (48 + -D) :: bv acc = bv acc' := by rw [← hacc, HDD.out, Int.neg_neg]; exact bv_digit E hE10 acc
          rw [hbv, hl] at hown'
          rw [hl]
          have HO' := Lib.hid hown'
          have HST' := Lib.hid (show Dst n.natAbs Q.natAbs acc' by rw [← hacc]; exact HST.out)
          clear hacc hown' hbv hgrow hnil
          go_wp2
          go_roundw
          case rel => exact ⟨acc', Q, g', c', rfl, rfl, HST'.out, by have := HQr.out; have := HRL.out; omega, HO'.out, HE'.out⟩
          case measure => have := HQr.out; have := HM.out; simp [intOf, lenOfV]; omega
        · have hb : ((acc.length : Int) == 0) = true := by rw [hcase]; rfl
          have hb2 : (acc.length : Int) = 0 := by simpa using hb
          have HDD := Lib.hid (show D = (E : Int) by omega)
          have hD1 : -9 ≤ D := by omega
          have hD2 : D ≤ 9 := by omega
          have HRL := Lib.hid hrl
          clear hcase hDE hrl
          go_wp2_with (at_builtin; refine wpList_append_own _ rfl _ _ 90 rfl w.heap.size 5 i0 (.int .u8 0) 1 1 Tryd.underlying90 hi hz0 hz1 hz2 rfl (by decide) _ _ _ rfl (own_lit wr _ _ _ HE.out.size) ⟨g, 0, none⟩ acc.length c (bv acc) rfl (by rw [bv_length, Nat.mul_one]) ?c1 ?c2 ?c3 ?c4 ?c5 ?_)
          case c1 => first | exact (HO.out.alloc _).cells (g := g) rfl | (intro j u hj; have := (HO.out.alloc (.cells #[.int .u8 (48 + D)] 5)).cells (g := g) rfl j u hj; rw [at_off] at this; exact this)
          case c2 => exact bv_oneCell acc
          case c3 => unfold maxLen; omega
          case c4 => omega
          case c5 => have := HE.out.size; simp; omega
          intro v' w1 hown' hgrow hnil
          obtain ⟨g', c', rfl⟩ := row_some hown' (fun h => hnil h)
          have HE' := Lib.hid (lit_step HE.out hgrow)
          obtain ⟨acc', hacc⟩ : ∃ acc', UInt8.ofNat (48 + E) :: acc = acc' := ⟨_, rfl⟩
          have hl : 1 + acc.length = acc'.length := by rw [← hacc]; simp; omega
          have hbv : Value.int .u8 (48 + D) :: bv acc = bv acc' := by rw [← hacc, HDD.out]; exact bv_digit E hE10 acc
          rw [hbv, hl] at hown'
          rw [hl]
          have HO' := Lib.hid hown'
          have HST' := Lib.hid (show Dst n.natAbs Q.natAbs acc' by rw [← hacc]; exact HST.out)
          clear hacc hown' hbv hgrow hnil
          go_wp2
          go_roundw
          case rel => exact ⟨acc', Q, g', c', rfl, rfl, HST'.out, by have := HQr.out; have := HRL.out; omega, HO'.out, HE'.out⟩
          case measure => have := HQr.out; have := HM.out; simp [intOf, lenOfV]; omega
      · by_cases hDn : D < 0
        · have hb2 : ¬ ((acc.length : Int) = 0) := by omega
          have hb : ((acc.length : Int) == 0) = false := by simpa using hb2
          have hr0 : ¬ (r = 0) := by have := HM.out; omega
          have hr1 : (r == 0) = false := by simpa using hr0
          have hr2 : (r != 0) = true := by simpa using hr0
          have HDD := Lib.hid (show D = -(E : Int) by omega)
          have hD1 : -9 ≤ D := by omega
          have hD2 : D ≤ 9 := by omega
          have HRL := Lib.hid hrl
          clear hcase hDE hrl
          go_wp2_with (at_builtin; refine wpList_append_own _ rfl _ _ 90 rfl w.heap.size 5 i0 (.int .u8 0) 1 1 Tryd.underlying90 hi hz0 hz1 hz2 rfl (by decide) _ _ _ rfl (own_lit wr _ _ _ HE.out.size) ⟨g, 0, none⟩ acc.length c (bv acc) rfl (by rw [bv_length, Nat.mul_one]) ?c1 ?c2 ?c3 ?c4 ?c5 ?_)
          case c1 => first | exact (HO.out.alloc _).cells (g := g) rfl | (intro j u hj; have := (HO.out.alloc (.cells #[.int .u8 (48 + D)] 5)).cells (g := g) rfl j u hj; rw [at_off] at this; exact this)
          case c2 => exact bv_oneCell acc
          case c3 => unfold maxLen; omega
          case c4 => omega
          case c5 => have := HE.out.size; simp; omega
          intro v' w1 hown' hgrow hnil
          obtain ⟨g', c', rfl⟩ := row_some hown' (fun h => hnil h)
          have HE' := Lib.hid (lit_step HE.out hgrow)
          obtain ⟨acc', hacc⟩ : ∃ acc', UInt8.ofNat (48 + E) :: acc = acc' := ⟨_, rfl⟩
          have hl : 1 + acc.length = acc'.length := by rw [← hacc]; simp; omega
          have hbv : Value.int .u8 (48 + -D) :: bv acc = bv acc' := by rw [← hacc, HDD.out, Int.neg_neg]; exact bv_digit E hE10 acc
          rw [hbv, hl] at hown'
          rw [hl]
          have HO' := Lib.hid hown'
          have HST' := Lib.hid (show Dst n.natAbs Q.natAbs acc' by rw [← hacc]; exact HST.out)
          clear hacc hown' hbv hgrow hnil
          go_wp2
          go_roundw
          case rel => exact ⟨acc', Q, g', c', rfl, rfl, HST'.out, by have := HQr.out; have := HRL.out; omega, HO'.out, HE'.out⟩
          case measure => have := HQr.out; have := HM.out; simp [intOf, lenOfV]; omega
        · have hb2 : ¬ ((acc.length : Int) = 0) := by omega
          have hb : ((acc.length : Int) == 0) = false := by simpa using hb2
          have hr0 : ¬ (r = 0) := by have := HM.out; omega
          have hr1 : (r == 0) = false := by simpa using hr0
          have hr2 : (r != 0) = true := by simpa using hr0
          have HDD := Lib.hid (show D = (E : Int) by omega)
          have hD1 : -9 ≤ D := by omega
          have hD2 : D ≤ 9 := by omega
          have HRL := Lib.hid hrl
          clear hcase hDE hrl
          go_wp2_with (at_builtin; refine wpList_append_own _ rfl _ _ 90 rfl w.heap.size 5 i0 (.int .u8 0) 1 1 Tryd.underlying90 hi hz0 hz1 hz2 rfl (by decide) _ _ _ rfl (own_lit wr _ _ _ HE.out.size) ⟨g, 0, none⟩ acc.length c (bv acc) rfl (by rw [bv_length, Nat.mul_one]) ?c1 ?c2 ?c3 ?c4 ?c5 ?_)
          case c1 => first | exact (HO.out.alloc _).cells (g := g) rfl | (intro j u hj; have := (HO.out.alloc (.cells #[.int .u8 (48 + D)] 5)).cells (g := g) rfl j u hj; rw [at_off] at this; exact this)
          case c2 => exact bv_oneCell acc
          case c3 => unfold maxLen; omega
          case c4 => omega
          case c5 => have := HE.out.size; simp; omega
          intro v' w1 hown' hgrow hnil
          obtain ⟨g', c', rfl⟩ := row_some hown' (fun h => hnil h)
          have HE' := Lib.hid (lit_step HE.out hgrow)
          obtain ⟨acc', hacc⟩ : ∃ acc', UInt8.ofNat (48 + E) :: acc = acc' := ⟨_, rfl⟩
          have hl : 1 + acc.length = acc'.length := by rw [← hacc]; simp; omega
          have hbv : Value.int .u8 (48 + D) :: bv acc = bv acc' := by rw [← hacc, HDD.out]; exact bv_digit E hE10 acc
          rw [hbv, hl] at hown'
          rw [hl]
          have HO' := Lib.hid hown'
          have HST' := Lib.hid (show Dst n.natAbs Q.natAbs acc' by rw [← hacc]; exact HST.out)
          clear hacc hown' hbv hgrow hnil
          go_wp2
          go_roundw
          case rel => exact ⟨acc', Q, g', c', rfl, rfl, HST'.out, by have := HQr.out; have := HRL.out; omega, HO'.out, HE'.out⟩
          case measure => have := HQr.out; have := HM.out; simp [intOf, lenOfV]; omega
end Go.Proofs.YtgejfeedcphfkaaDoor
