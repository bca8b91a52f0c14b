/- Lists that a source draws. -/
import Derived.Test.YtibldgcfplpdkaaSrd
import Derived.Test.YtibldgcfplpdkaaAll
import Derived.Test.YtibldgcfplpdkaaRow
namespace Go.Proofs.Ytibldgcfplpdkaa
open Go.ChangeShapes Go.WideShapes Go.ChangeAt Go.RowKit
set_option linter.unusedVariables false
theorem owns_beside {w w' : World} {base lo hi n : Nat} {t : TypeId} {v : Value} {xs : List Value} (h : w.ownsRow base t 1 v n xs) (e : Touch lo hi w w') (hd : hi ≤ base) : w'.ownsRow base t 1 v n xs := by
  have hlt := h.lt
  refine ⟨h.1, ?_⟩
  rcases h.2 with h0 | ⟨g, cap, cur, rfl, hb, hg, rest⟩
  · exact .inl h0
  · exact .inr ⟨g, cap, cur, rfl, hb, by rw [e.block g (hlt g rfl).2 (.inr (by omega))]; exact hg, rest⟩
theorem SrcAt.low {w w' : World} {g lo : Nat} {a : Option Addr} {len cap : Nat} {bs : List Int} {M : Nat} (h : SrcAt w g a len cap bs M) (e : Below lo w w') (hd : g < lo) : SrcAt w' g a len cap bs M := by
  obtain ⟨k, sd, hb, r⟩ := h.ex
  have hg := hb.lt
  refine ⟨⟨k, sd, (Below.block e g hd).trans hb, r⟩, ⟨⟨h.code.rd.1, ?_⟩, h.code.le, h.code.u8⟩, h.far⟩
  rcases h.code.rd.2 with h0 | ⟨b, off, rfl, hc⟩
  · exact .inl h0
  · refine .inr ⟨b, off, rfl, fun i hi => ?_⟩
    rw [← hc i hi]
    have hbg := h.far (by omega) _ rfl
    dsimp only at hbg
    exact Below.cell (p := ⟨b, off + i, none⟩) e (show b < lo by omega)
/-- a row of the call's own has grown by one: what lies below it is as it was -/
theorem grown_low {w w1 : World} {o : Obj} {base n : Nat} {t : TypeId} {v : Value} {xs : List Value} (hs : base ≤ w.heap.size) (h : w.ownsRow base t 1 v n xs) (hg : (w.alloc o).grownBy w1 v.ownBlock) : Below base w w1 :=
  (Below.alloc (Below.refl _ _) hs o).grown hg (by simp; omega) (fun j hj => (h.lt j hj).1)
def RetGen (n : Nat) (P : List Int → Prop) (w : World) (e : Ending) (w' : World) : Prop :=
  ∃ a c zs, e = .returned (.slice a n c) ∧ zs.length = n ∧ P zs ∧ Own 2 w' w.heap.size w'.heap.size a n c (ints zs) ∧ Ext w w'
/-- keys that rise -/
structure DifOk (n : Nat) (zs : List Int) (k : Nat) : Prop where
  le : k ≤ 99 + 1000000 * n
  b : ∀ i, i < n → 0 ≤ getI zs i ∧ getI zs i < k
  up : ∀ i j, i < j → j < n → getI zs i < getI zs j
theorem getI_snoc (zs : List Int) (x : Int) (i : Nat) : getI (zs ++ [x]) i = if i < zs.length then getI zs i else if i = zs.length then x else 0 := by
  unfold getI
  by_cases h : i < zs.length
  · rw [if_pos h, List.getElem?_append_left h]
  · rw [if_neg h]
    by_cases e : i = zs.length
    · subst e; rw [if_pos rfl, List.getElem?_append_right (Nat.le_refl _), Nat.sub_self]; rfl
    · rw [if_neg e, List.getElem?_eq_none (by rw [List.length_append, List.length_singleton]; omega)]; rfl
theorem DifOk.nil {k : Nat} (h : k < 100) : DifOk 0 [] k := ⟨by omega, fun i hi => by omega, fun i j _ hj => by omega⟩
theorem DifOk.snoc {n : Nat} {zs : List Int} {k z : Nat} (h : DifOk n zs k) (hl : zs.length = n) (hz : z < 1000000) : DifOk (n + 1) (zs ++ [(k : Int)]) (k + (1 + z)) := by
  refine ⟨by have := h.le; omega, fun i hi => ?_, fun i j hij hj => ?_⟩
  · rw [getI_snoc]
    by_cases e : i < zs.length
    · rw [if_pos e]; have := h.b i (by omega); omega
    · rw [if_neg e, if_pos (by omega)]; omega
  · rw [getI_snoc, getI_snoc, if_pos (by omega)]
    by_cases e : j < zs.length
    · rw [if_pos e]; exact h.up i j hij (by omega)
    · rw [if_neg e, if_pos (by omega)]; have := h.b i (by omega); omega
theorem ints_app (zs : List Int) (x : Int) : ints (zs ++ [x]) = ints zs ++ [.int .i64 x] := by unfold ints; rw [List.map_append]; rfl
def DifP (n : Nat) (zs : List Int) : Prop := ∃ k, DifOk n zs k
set_option maxRecDepth 100000 in
set_option maxHeartbeats 2000000 in
theorem c_R8Different (a : Option Addr) (len cap : Nat) (bs : List Int) (N : Nat) (w : World) (hN : N ≤ 1024) (h : Code w a len bs) :
    Calls Try.prog 16 #[.slice a len cap, .int .i64 N] w (RetGen N (DifP N) w) := by
  obtain ⟨i0, hi, hz0, hz1, hz2⟩ := info_parts info_i64
  have HH := Lib.hid h
  clear h
  go_enter Try.func16, Try.ntmps16
  go_wp2_with fail
  refine (c_l00From a len cap bs _ HH.out).mono ?_; rintro e wb ⟨rfl, hs, hx, hsz⟩
  have HS0 := Lib.hid (hs.on (Ext.alloc _ (.cells #[] 2)))
  have HX0 := Lib.hid (hx.trans (Ext.alloc _ (.cells #[] 2)))
  have HZ := Lib.hid hsz
  have HO0 := Lib.hid (World.ownsRow_made (base := wb.heap.size) (e := 2) (size := 1) wb #[] 0 (Nat.le_refl _) (Nat.zero_le _) rfl)
  clear hs hx hsz
  go_wp2_with fail
  refine (c_pick _ a len cap bs 0 100 _ (by decide) (by decide) (by decide) HS0.out).mono ?_; rintro e wc ⟨z, hz, rfl, hs, ht⟩
  have HS1 := Lib.hid hs
  have HT := Lib.hid ht
  have HX1 := Lib.hid (Touch.ext HX0.out ht (Nat.le_refl _))
  have HO1 := Lib.hid (owns_beside HO0.out ht (by rw [HZ.out]; exact Nat.le_refl _))
  clear hs ht
  go_wp2
  go_loopw [1, 6, 7] (fun x v y wr => ∃ (k j A : Nat) (zs : List Int), x = .int .i64 (k : Int) ∧ y = .int .i64 (A : Int) ∧ k + j = N ∧ zs.length = j ∧ DifOk j zs A ∧ wr.ownsRow wb.heap.size 2 1 v j (ints zs) ∧ SrcAt wr w.heap.size a len cap bs (2 + 2 * j) ∧ Ext w wr) (fun x _ _ _ => (intOf x).toNat)
  case atStart => exact ⟨N, 0, z, [], rfl, rfl, rfl, rfl, DifOk.nil hz, HO1.out, HS1.out, HX1.out⟩
  case round =>
    obtain ⟨k, j, A, zs, rfl, rfl, hkj, hzl, hd, hown, hsrc, hext⟩ := hrel
    have HO := Lib.hid hown
    have HS := Lib.hid hsrc
    have HX := Lib.hid hext
    have HD := Lib.hid hd
    have HZL := Lib.hid hzl
    have hAle := hd.le
    have hbs : wb.heap.size ≤ wr.heap.size := by
      rcases hown.2 with ⟨rfl, _⟩ | ⟨g9, c9, r9, rfl, h91, h92, _⟩
      · have := HS.out.lt; have := HZ.out; omega
      · have := (hown.lt g9 rfl).2; omega
    have HBS := Lib.hid hbs
    clear hown hsrc hext hd hzl hbs
    by_cases hk : k = 0
    · have HK := Lib.hid hk
      have hkI : ¬ (0 : Int) < (k : Int) := by omega
      obtain ⟨a1, c1, rfl, ho⟩ := Own.of_row (e := 0) HO.out
      have O1 := Lib.hid ho
      have hjN : j = N := by omega
      subst hjN
      clear ho hk hkj
      go_wp2
      go_ret
      exact ⟨a1, c1, zs, rfl, HZL.out, ⟨A, HD.out⟩, O1.out.wide (by have := HZ.out; omega) (Nat.le_refl _), HX.out⟩
    · obtain ⟨k, rfl⟩ : ∃ k', k = k' + 1 := ⟨k - 1, by omega⟩
      have hkI : (0 : Int) < ((k + 1 : Nat) : Int) := by omega
      clear hk
      go_wp2_with (at_builtin; refine wpList_append_own _ rfl _ _ 24 rfl wb.heap.size 2 i0 (.int .i64 0) 1 8 Try.underlying24 hi hz0 hz1 hz2 rfl (by decide) _ _ _ rfl (HO.out.alloc _) ⟨_, 0, none⟩ 1 1 [.int .i64 (A : Int)] rfl rfl (one_cell_at _ _ _) (by intro u hu; simp at hu; subst hu; rfl) (by unfold maxLen; omega) (by omega) (by have := HBS.out; first | (simp; omega) | omega) ?_; intro v' w1 hown' hgrow _; have HO' := Lib.hid hown'; have HG := Lib.hid (grown_low HBS.out HO.out hgrow); have HX' := Lib.hid (show Ext w w1 from Below.trans HX.out (Below.mono HG.out (by have := HZ.out; omega))); have HS' := Lib.hid (HS.out.low HG.out (by have := HZ.out; omega)); clear hown' hgrow)
      go_wp2_with fail
      refine (c_pick _ a len cap bs (2 + 2 * j) 1000000 _ (by omega) (by decide) (by decide) HS'.out).mono ?_; rintro e w2 ⟨y, hy, rfl, hs, ht⟩
      have HS2 := Lib.hid hs
      have HX2 := Lib.hid (Touch.ext HX'.out ht (Nat.le_refl _))
      have HO2 := Lib.hid (owns_beside HO'.out ht (by rw [HZ.out]; exact Nat.le_refl _))
      clear hs ht
      go_wp2
      go_roundw
      case rel => exact ⟨k, j + 1, A + (1 + y), zs ++ [(A : Int)], by go_num, by go_num, by omega, by rw [List.length_append, List.length_singleton, HZL.out], HD.out.snoc HZL.out hy, by rw [ints_app]; exact HO2.out, HS2.out.more (by omega), HX2.out⟩
      case measure => simp [intOf]
end Go.Proofs.Ytibldgcfplpdkaa
