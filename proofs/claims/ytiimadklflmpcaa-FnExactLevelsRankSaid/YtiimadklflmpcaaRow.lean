/- HashRow: what both sides answer; the law's walk. -/
import Derived.Test.YtiimadklflmpcaaKey
namespace Go.Proofs.Ytiimadklflmpcaa
open Go.ChangeShapes Go.WideShapes Go.ChangeAt Go.RowKit
set_option linter.unusedVariables false
def rowV (zs : List Int) (salt : Int) : List Int := if keysB zs && keyB salt then rowZ zs salt else []
theorem rowV_yes {zs : List Int} {salt : Int} (hk : keysB zs = true) (hs : keyB salt = true) : rowV zs salt = rowZ zs salt := by unfold rowV; rw [hk, hs]; rfl
theorem rowV_no {zs : List Int} {salt : Int} (h : (keysB zs && keyB salt) = false) : rowV zs salt = [] := by unfold rowV; rw [h]; rfl
theorem rowV_le (zs : List Int) (salt : Int) : (rowV zs salt).length ≤ 256 := by
  unfold rowV
  split
  · rename_i h
    simp only [Bool.and_eq_true] at h
    rw [rowZ_length]; exact keysB_len h.1
  · exact Nat.zero_le _
theorem c_impl_AreKeys_of (a : Option Addr) (n cap : Nat) (zs : List Int) (w : World) {b : Bool} (hb : keysB zs = b) (hm : n ≤ maxLen) (h : Reads w a n (ints zs)) :
    Calls Try.prog 67 #[.slice a n cap] w fun e w' => e = .returned (.bool b) ∧ w = w' := by
  subst hb; exact c_impl_AreKeys a n cap zs w hm h
theorem app_step {w wr w1 : World} {o : Obj} {t : TypeId} {v : Value} {k : Nat} {xs : List Value} (hext : Ext w wr) (hown : wr.ownsRow w.heap.size t 1 v k xs) (hg : (wr.alloc o).grownBy w1 v.ownBlock) : Ext w w1 :=
  (Below.alloc hext hext.size o).grown hg (by have := hext.size; simp; omega) (fun j hj => (hown.lt j hj).1)
theorem ints_snoc (zs : List Int) (k : Nat) (h : k < zs.length) : ints (zs.take (k + 1)) = ints (zs.take k) ++ [.int .i64 (zs[k]?.getD 0)] := by
  unfold ints
  rw [List.take_succ_eq_append_getElem h, List.map_append]
  simp [h]
theorem one_cell_at (w : World) (o : Value) (t : TypeId) : ∀ (j : Nat) (u : Value), [o][j]? = some u → (w.alloc (.cells #[o] t)).cell? ((⟨w.heap.size, 0, none⟩ : Addr).add j) = some u := by
  intro j u hj
  match j, hj with
  | 0, hj => simp at hj; subst hj; simp [Addr.add]
set_option maxHeartbeats 400000 in
theorem c_spec_l02Row (a : Option Addr) (n cap : Nat) (zs : List Int) (salt : Int) (w : World) (hk : keysB zs = true) (hs : keyB salt = true) (h : Reads w a n (ints zs)) :
    Calls Try.prog 66 #[.slice a n cap, .int .i64 salt] w (RetS 2 zs.length (ints (rowZ zs salt)) w) := by
  have hn := keysB_len hk
  obtain ⟨rfl, hr⟩ := h.int
  obtain ⟨i0, hi, hz0, hz1, hz2⟩ := info_parts info_i64
  have HR := Lib.hid hr
  have HK := Lib.hid hk
  have HS := Lib.hid hs
  clear hr h hk hs
  go_enter Try.func66, Try.ntmps66
  go_wp2
  go_loopw [5, 6] (fun v i wr => ∃ k : Nat, k ≤ zs.length ∧ i = .int .i64 k ∧ wr.ownsRow w.heap.size 2 1 v k (ints ((rowZ zs salt).take k)) ∧ Ext w wr) (fun _ i _ => zs.length - (intOf i).toNat)
  case atStart => exact ⟨0, Nat.zero_le _, rfl, World.ownsRow_made _ _ _ (Nat.le_refl _) (Nat.zero_le _) rfl, Ext.alloc _ _⟩
  case round =>
    obtain ⟨k, hk, rfl, hown, hext⟩ := hrel
    have HO := Lib.hid hown
    have HE := Lib.hid hext
    by_cases hlt : k < zs.length
    · rcases HR.out with h0 | ⟨b, off, rfl, hc⟩
      · omega
      have hcell : wr.cell? ⟨b, off + k, none⟩ = some (.int .i64 (zs[k]?.getD 0)) := by
        have h1 := hc k hlt
        rw [hext.cell b _ (World.block_lt_of_cell? w ⟨b, off + k, none⟩ h1)]; exact h1
      obtain ⟨x, hx⟩ : ∃ x, zs[k]?.getD 0 = x := ⟨_, rfl⟩
      have HKK := Lib.hid (show keyB x = true by rw [← hx]; exact keysB_at HK.out hlt)
      have HG := Lib.hid (show (rowZ zs salt)[k]?.getD 0 = ((hashN x salt : Nat) : Int) by rw [← hx]; exact rowZ_get zs salt k hlt)
      have HT := Lib.hid (ints_snoc (rowZ zs salt) k (by rw [rowZ_length]; exact hlt))
      rw [hx] at hcell
      clear hc hown hext hx
      go_wp2_with (first | (go_at_call 128; refine (c_spec_l02Hash x salt _ HKK.out HS.out).mono ?_; rintro e w' ⟨rfl, rfl⟩) | (at_builtin; refine wpList_append_own _ rfl _ _ 22 rfl w.heap.size 2 i0 (.int .i64 0) 1 8 Try.underlying22 hi hz0 hz1 hz2 rfl (by decide) _ _ _ rfl (HO.out.alloc _) ⟨_, 0, none⟩ 1 1 [.int .i64 ((hashN x salt : Nat) : Int)] rfl rfl ?c1 ?c2 ?c3 ?c4 ?c5 ?_))
      case c1 => exact one_cell_at _ _ _
      case c2 => intro u hu; simp at hu; subst hu; rfl
      case c3 => unfold maxLen; omega
      case c4 => omega
      case c5 => have := HE.out.size; simp; omega
      intro v' w1 hown' hgrow _
      have HO' := Lib.hid hown'
      have HE' := Lib.hid (app_step HE.out HO.out hgrow)
      clear hown' hgrow
      go_wp2
      go_roundw
      case rel => exact ⟨k + 1, by omega, by go_num, by rw [HT.out, HG.out]; exact HO'.out, HE'.out⟩
      case measure => simp [intOf]; omega
    · have hkl : k = zs.length := by omega
      subst hkl
      obtain ⟨a', c', hv, ho⟩ := Own.of_row (e := 0) HO.out
      subst hv
      have HO' := Lib.hid ho
      clear ho hown hext
      go_wp2
      go_ret
      exact ⟨_, _, rfl, by have := HO'.out; rw [List.take_of_length_le (by rw [rowZ_length]; exact Nat.le_refl _)] at this; exact this, HE.out⟩
theorem c_spec_l02Keys_of (a : Option Addr) (n cap : Nat) (zs : List Int) (w : World) {b : Bool} (hb : keysB zs = b) (hm : n ≤ maxLen) (h : Reads w a n (ints zs)) :
    Calls Try.prog 65 #[.slice a n cap] w fun e w' => e = .returned (.bool b) ∧ w = w' := by
  subst hb; exact c_spec_l02Keys a n cap zs w hm h
end Go.Proofs.Ytiimadklflmpcaa
