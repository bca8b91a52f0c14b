/- Lists of finite floats in ascending order: the plain side; itself, cmp.Compare. -/
import Derived.Test.YtfbapbgiegploaaAsc
import Derived.Test.YtfbapbgiegploaaSrl
import Derived.Test.YtfbapbgiegploaaChc
import Derived.ProofKit
import Derived.OpenShut
import Derived.Handy
import Derived.OwnWalk
import Derived.Deep.QuietTactic
import Derived.BigQuiet
namespace Go.Proofs.Ytfbapbgiegploaa
open Go.ChangeShapes Go.WideShapes Go.ChangeAt Go.RowKit Go.Proofs.Ytfbapbgiegploaa.Smg Go.Proofs.Ytfbapbgiegploaa.Flo
set_option linter.unusedVariables false
attribute [local go_sem] run_store_float
/-- the order of two finite floats -/
def leF (x y : Nat) : Bool := decide (fkey x ≤ fkey y)
theorem leF_tr : ∀ x y z, leF x y = true → leF y z = true → leF x z = true := fun x y z h1 h2 => by
  unfold leF at *
  have h3 := of_decide_eq_true h1
  have h4 := of_decide_eq_true h2
  exact decide_eq_true (by omega)
theorem leF_tot : ∀ x y, leF x y = true ∨ leF y x = true := fun x y => by
  unfold leF
  by_cases h : fkey x ≤ fkey y
  · exact .inl (decide_eq_true h)
  · exact .inr (decide_eq_true (by omega))
/-- a list in ascending order -/
def sortF (zs : List Nat) : List Nat := zs.mergeSort leF
theorem sortF_length (zs : List Nat) : (sortF zs).length = zs.length := by unfold sortF; rw [List.length_mergeSort]
theorem sortF_mem {zs : List Nat} {x : Nat} (h : x ∈ sortF zs) : x ∈ zs := (List.mergeSort_perm zs leF).mem_iff.1 h
def sortR (zs : List Nat) : List Nat × Bool := if listB zs then (sortF zs, true) else ([], false)
theorem sortR_yes {zs : List Nat} (h : listB zs = true) : sortR zs = (sortF zs, true) := by unfold sortR; rw [h]; rfl
theorem sortR_no {zs : List Nat} (h : listB zs = false) : sortR zs = ([], false) := by unfold sortR; rw [h]; rfl
theorem sortR_le {zs rz : List Nat} {rb : Bool} (h : sortR zs = (rz, rb)) : rz.length ≤ 1048576 := by
  cases hb : listB zs
  · rw [sortR_no hb] at h; cases h; exact Nat.zero_le _
  · rw [sortR_yes hb] at h; cases h; rw [sortF_length]; have := (list_ok hb).hi; omega
theorem valsG_flo (zs : List Nat) : valsG (Value.float .f32) (tagF zs 0) zs.length = flos zs := by
  unfold valsG flos tagF
  apply List.ext_getElem
  · simp
  · intro i h1 h2
    have hi : i < zs.length := by simpa using h1
    simp [hi]
theorem own_rowF {w : World} {t : TypeId} {b lo n c : Nat} {g : Nat → Nat × Nat} {f : Nat → Value} (hc : n ≤ c) (hb : lo ≤ b) (h : w.rowIs b t c (rowG (Value.float .f32) n g f)) : Own t w lo w.heap.size (some ⟨b, 0, none⟩) n c (flos ((Smg.rowL g n).map Prod.fst)) := by
  refine ⟨by rw [flos_length, List.length_map, Smg.rowL_length], hc, .inr ⟨b, _, rfl, hb, h.lt, h, fun i hi => ?_⟩⟩
  rw [rowG_at hi]
  simp [flos, Smg.rowL, hi]
theorem sortF_of {zs : List Nat} {n : Nat} {g : Nat → Nat × Nat} (hz : zs.length = n) (h : Shuf 0 n (tagF zs 0) g) (h' : SortedOn (TL leF) g 0 n) : (Smg.rowL g n).map Prod.fst = sortF zs := by
  subst hz
  exact sort_end leF_tr leF_tot zs 0 h h'
theorem c_impl_itself (x : Nat) (w : World) : Calls Try.prog 288 #[.float .f32 x] w fun e w' => e = .returned (.float .f32 x) ∧ w' = w := by
  go_enter Try.func288, Try.ntmps288
  go_wp2
  go_ret
  exact ⟨rfl, rfl⟩
theorem cmpG_F (x y : Nat) : cmpG leF x y = if fkey x < fkey y then -1 else if fkey y < fkey x then 1 else 0 := by
  unfold cmpG leF
  by_cases h1 : fkey x < fkey y
  · rw [if_pos (decide_eq_false (by omega)), if_pos h1]
  · rw [if_neg (by simp; omega), if_neg h1]
    by_cases h2 : fkey y < fkey x
    · rw [if_pos (decide_eq_false (by omega)), if_pos h2]
    · rw [if_neg (by simp; omega), if_neg h2]
theorem c_cmpCompareF (x y : Nat) (v : Int) (w : World) (hx : isFin .f32 x = true) (hy : isFin .f32 y = true) (h : cmpG leF x y = v) : Calls Try.prog 227 #[.float .f32 x, .float .f32 y] w fun e w' => e = .returned (.int .i64 v) ∧ w' = w := by
  have kl := key_lt hx hy
  have kg := key_gt hx hy
  have HX := Lib.hid hx
  have HY := Lib.hid hy
  rw [cmpG_F] at h
  clear hx hy
  by_cases h1 : fkey x < fkey y
  · rw [if_pos h1] at h
    rw [decide_eq_true h1] at kl
    have H := Lib.hid h
    clear h kg h1
    go_enter Try.func227, Try.ntmps227
    go_wp2_with fail
    refine (c_isNaNF x _ HX.out).mono ?_; rintro e w' ⟨rfl, rfl⟩
    go_wp2_with fail
    refine (c_isNaNF y _ HY.out).mono ?_; rintro e w' ⟨rfl, rfl⟩
    go_wp2
    go_ret
    exact ⟨by rw [← H.out]; rfl, rfl⟩
  · rw [if_neg h1] at h
    rw [decide_eq_false h1] at kl
    by_cases h2 : fkey y < fkey x
    · rw [if_pos h2] at h
      rw [decide_eq_true h2] at kg
      have H := Lib.hid h
      clear h h1 h2
      go_enter Try.func227, Try.ntmps227
      go_wp2_with fail
      refine (c_isNaNF x _ HX.out).mono ?_; rintro e w' ⟨rfl, rfl⟩
      go_wp2_with fail
      refine (c_isNaNF y _ HY.out).mono ?_; rintro e w' ⟨rfl, rfl⟩
      go_wp2
      go_ret
      exact ⟨by rw [← H.out]; rfl, rfl⟩
    · rw [if_neg h2] at h
      rw [decide_eq_false h2] at kg
      have H := Lib.hid h
      clear h h1 h2
      go_enter Try.func227, Try.ntmps227
      go_wp2_with fail
      refine (c_isNaNF x _ HX.out).mono ?_; rintro e w' ⟨rfl, rfl⟩
      go_wp2_with fail
      refine (c_isNaNF y _ HY.out).mono ?_; rintro e w' ⟨rfl, rfl⟩
      go_wp2
      go_ret
      exact ⟨by rw [← H.out]; rfl, rfl⟩
end Go.Proofs.Ytfbapbgiegploaa
