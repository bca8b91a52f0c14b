/- HashRow: what both sides answer; the law's walk. -/
import Derived.Test.YtfbapbgiegploaaKey
namespace Go.Proofs.Ytfbapbgiegploaa
open Go.ChangeShapes Go.WideShapes Go.ChangeAt Go.RowKit
set_option linter.unusedVariables false
def rowV (zs : List Int) (salt : Int) : List Int := if keysB zs && keyB salt then rowZ zs salt else []
theorem rowV_yes {zs : List Int} {salt : Int} (hk : keysB zs = true) (hs : keyB salt = true) : rowV zs salt = rowZ zs salt := by unfold rowV; rw [hk, hs]; rfl
theorem rowV_no {zs : List Int} {salt : Int} (h : (keysB zs && keyB salt) = false) : rowV zs salt = [] := by unfold rowV; rw [h]; rfl
theorem rowV_le (zs : List Int) (salt : Int) : (rowV zs salt).length ≤ 256 := by
  unfold rowV
  split
  · rename_i h
    simp only [Bool.and_eq_true] at h
    rw [rowZ_length]; exact keysB_len h.1
  · exact Nat.zero_le _
theorem c_impl_AreKeys_of (a : Option Addr) (n cap : Nat) (zs : List Int) (w : World) {b : Bool} (hb : keysB zs = b) (hm : n ≤ maxLen) (h : Reads w a n (ints zs)) :
    Calls Try.prog 118 #[.slice a n cap] w fun e w' => e = .returned (.bool b) ∧ w = w' := by
  subst hb; exact c_impl_AreKeys a n cap zs w hm h
theorem app_step {w wr w1 : World} {o : Obj} {t : TypeId} {v : Value} {k : Nat} {xs : List Value} (hext : Ext w wr) (hown : wr.ownsRow w.heap.size t 1 v k xs) (hg : (wr.alloc o).grownBy w1 v.ownBlock) : Ext w w1 :=
  (Below.alloc hext hext.size o).grown hg (by have := hext.size; simp; omega) (fun j hj => (hown.lt j hj).1)
theorem ints_snoc (zs : List Int) (k : Nat) (h : k < zs.length) : ints (zs.take (k + 1)) = ints (zs.take k) ++ [.int .i64 (zs[k]?.getD 0)] := by
  unfold ints
  rw [List.take_succ_eq_append_getElem h, List.map_append]
  simp [h]
theorem one_cell_at (w : World) (o : Value) (t : TypeId) : ∀ (j : Nat) (u : Value), [o][j]? = some u → (w.alloc (.cells #[o] t)).cell? ((⟨w.heap.size, 0, none⟩ : Addr).add j) = some u := by
  intro j u hj
  match j, hj with
  | 0, hj => simp at hj; subst hj; simp [Addr.add]
end Go.Proofs.Ytfbapbgiegploaa
