/- Medians of any number of integers, by the stable sort. -/
import Derived.Test.YtfbapbgiegploaaSt7
import Derived.Test.YtfbapbgiegploaaMed
import Derived.Test.YtfbapbgiegploaaChc
import Derived.Test.YtfbapbgiegploaaLsd
namespace Go.Proofs.Ytfbapbgiegploaa
open Go.ChangeShapes Go.WideShapes Go.ChangeAt Go.RowKit Go.Proofs.Ytfbapbgiegploaa.Smg
set_option linter.unusedVariables false
def leK (x y : Int) : Bool := decide (x ≤ y)
theorem leK_tr : ∀ x y z, leK x y = true → leK y z = true → leK x z = true := fun x y z h1 h2 => by
  unfold leK at *
  rw [decide_eq_true_eq] at *
  omega
theorem leK_tot : ∀ x y, leK x y = true ∨ leK y x = true := fun x y => by
  unfold leK
  by_cases h : x ≤ y
  · exact .inl (decide_eq_true h)
  · exact .inr (decide_eq_true (by omega))
theorem leK_cmp (x y : Int) : cmpG leK x y = cmpZ x y := by
  unfold cmpG cmpZ leK
  by_cases h1 : x < y
  · rw [if_pos (decide_eq_false (by omega)), if_pos h1]
  · rw [if_neg (by simp; omega), if_neg h1]
    by_cases h2 : y < x
    · rw [if_pos (decide_eq_false (by omega)), if_pos h2]
    · rw [if_neg (by simp; omega), if_neg h2]
def midI (zs : List Int) : Int := (sortZ zs)[(zs.length - 1) / 2]?.getD 0
theorem cmpOkK (g : Nat) (w : World) : CmpOk Try.prog leK (fun _ => True) 212 (fun x y => #[.int .i64 x, .int .i64 y]) g w := fun u _ x y v _ _ hv =>
  (c_cmpCompare x y v u (by rw [← leK_cmp]; exact hv)).mono (by rintro e w' ⟨rfl, rfl⟩; exact ⟨rfl, 0, rfl⟩)
set_option maxHeartbeats 1000000 in
theorem c_medianOf_k (g n c : Nat) (zs : List Int) (f : Nat → Value) (w : World) (h1 : 1 ≤ n) (hn : n ≤ 1000) (hz : zs.length = n) (hc : n ≤ c) (h : w.rowIs g 2 c (rowT zs f)) :
    Calls Try.prog 107 #[.slice (some ⟨g, 0, none⟩) n c] w fun e w' => e = .returned (.int .i64 (midI zs)) ∧ Touch g (g + 1) w w' := by
  have HR := Lib.hid (show w.rowIs g 2 c (rowG (Value.int .i64) n (tagF zs 0) f) from h.congr fun i hi => by
    unfold rowT rowG
    rw [hz]; rfl)
  obtain ⟨q, hq⟩ : ∃ q, (n - 1) / 2 = q := ⟨_, rfl⟩
  have hql : q < n := by omega
  have e1 : ((n : Int) - 1) / 2 = (q : Int) := by omega
  have e2 : (q : Int) < (n : Int) := by omega
  have e3 : (0 : Int) ≤ (q : Int) := by omega
  have e4 : (1 : Int) ≤ (n : Int) := by omega
  have e5 : (n : Int) ≤ 1000 := by omega
  have HM := Lib.hid (show (sortZ zs)[q]?.getD 0 = midI zs by unfold midI; rw [hz, hq])
  have HZ := Lib.hid hz
  clear h hz hq
  go_enter Try.func107, Try.ntmps107
  go_wp2_with fail
  refine (c_SortStableK leK leK_tr leK_tot (fun _ => True) 0 g n c (tagF zs 0) f _ (by omega) hc (fun _ _ _ => trivial) (fun k hk => rfl) (cmpOkK _ _) HR.out).mono ?_
  rintro e w' ⟨g', rfl, r', ⟨s', o'⟩, t'⟩
  have he := sort_end leK_tr leK_tot zs 0 (g := g') (by rw [HZ.out]; exact s') (by rw [HZ.out]; exact o')
  rw [HZ.out] at he
  have hcell := r'.cell (i := q) (by omega)
  rw [rowG_at hql] at hcell
  have HV := Lib.hid (show (g' q).1 = midI zs by
    rw [← HM.out, show sortZ zs = zs.mergeSort leK from rfl, ← he, List.getElem?_map, rowL_get g' n q hql]; rfl)
  rw [HV.out] at hcell
  have T2 := Lib.hid t'
  clear r' s' o' t' he
  go_wp2
  go_ret
  exact ⟨rfl, T2.out⟩
theorem c_midClosure (b off n cap : Nat) (zs : List Int) (w : World) (h1 : 1 ≤ n) (hn : n ≤ 1000) (h : Reads w (some ⟨b, off, none⟩) n (ints zs)) :
    Calls Try.prog 106 #[.slice (some ⟨b, off, none⟩) n cap] w fun e w' => e = .returned (.int .i64 (midI zs)) ∧ Ext w w' := by
  have hz := h.int.1
  have H := Lib.hid h
  have HZ := Lib.hid hz
  clear h hz
  go_enter Try.func106, Try.ntmps106
  go_wp2_with fail
  refine (c_Clone_r _ _ _ zs _ (by omega) (by omega) H.out).mono ?_; rintro e w1 ⟨g, c', f, rfl, g1, g2, g3, g4⟩
  have HG := Lib.hid g1
  have HR := Lib.hid g3
  have HX := Lib.hid g4
  clear g1 g3 g4
  go_wp2_with fail
  refine (c_medianOf_k g n c' zs f _ h1 hn HZ.out g2 HR.out).mono ?_; rintro e w2 ⟨rfl, t2⟩
  have T2 := Lib.hid t2
  clear t2
  go_wp2
  go_ret
  exact ⟨rfl, T2.out.ext HX.out HG.out⟩
end Go.Proofs.Ytfbapbgiegploaa
