/- PlacesOf: both sides. -/
import Derived.Test.YtgejfeedcphfkaaDoorPla
import Derived.Test.YtgejfeedcphfkaaDoorPut
import Derived.Test.YtgejfeedcphfkaaDoorLcl
namespace Go.Proofs.YtgejfeedcphfkaaDoor
open Go.ChangeShapes Go.WideShapes Go.ChangeAt Go.RowKit
set_option linter.unusedVariables false
def placesR (W D S : Int) (zs : List Int) (key : Int) : List Int × Bool := if cellsB W D S zs && keyB key then (placesZ W.toNat D.toNat S key, true) else ([], false)
theorem placesR_1 {W D S key : Int} {zs : List Int} (h : cellsB W D S zs = false) : placesR W D S zs key = ([], false) := by unfold placesR; rw [h]; rfl
theorem placesR_2 {W D S key : Int} {zs : List Int} (h : keyB key = false) : placesR W D S zs key = ([], false) := by unfold placesR; rw [h, Bool.and_false]; rfl
theorem placesR_y {m d : Nat} {S key : Int} {zs : List Int} (h : CellsOk m d S zs) (hk : keyB key = true) : placesR m d S zs key = (placesZ m d S key, true) := by
  unfold placesR
  rw [h.cellsB, hk]
  simp
theorem placesR_le {W D S key : Int} {zs rz : List Int} {rb : Bool} (h : placesR W D S zs key = (rz, rb)) : rz.length ≤ 1048576 := by
  unfold placesR at h
  split at h
  · rename_i hc
    simp only [Bool.and_eq_true] at hc
    obtain ⟨m, d, rfl, rfl, ok⟩ := cells_ok hc.1
    have := ok.d6
    simp only [Prod.mk.injEq] at h
    rw [← h.1, placesZ_length]
    simp; omega
  · simp only [Prod.mk.injEq] at h
    rw [← h.1]; exact Nat.zero_le _
theorem made_at {base size g : Nat} {e : TypeId} (w : World) (cur : Array Value) (cap : Nat) (hg : g = w.heap.size) (hb : base ≤ g) (hm : cap ≤ maxLen) (hs : cur.size = cap * size) : (w.alloc (.cells cur e)).ownsRow base e size (.slice (some ⟨g, 0, none⟩) 0 cap) 0 [] := by
  subst hg; exact World.ownsRow_made w cur cap hb hm hs
theorem rowIs_on {w w' : World} {b n : Nat} {t : TypeId} {f : Nat → Value} (h : w.rowIs b t n f) (e : Ext w w') : w'.rowIs b t n f := h.of_block (Below.block e b h.lt)
theorem c_impl_IsKey_e (k : Int) (w : World) {b : Bool} (h : keyB k = b) : Calls Tryd.prog 78 #[.int .i64 k] w fun e w' => e = .returned (.bool b) ∧ w = w' := by
  subst h; exact c_impl_IsKey k w
theorem c_spec_l02Key_e (k : Int) (w : World) {b : Bool} (h : keyB k = b) : Calls Tryd.prog 73 #[.int .i64 k] w fun e w' => e = .returned (.bool b) ∧ w = w' := by
  subst h; exact c_spec_l02Key k w
end Go.Proofs.YtgejfeedcphfkaaDoor
