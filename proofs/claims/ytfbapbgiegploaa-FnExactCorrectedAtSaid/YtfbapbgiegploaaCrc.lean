/- Medians of 32-bit floats by the stable sort; the row of the corrected counts. -/
import Derived.Test.YtfbapbgiegploaaCra
import Derived.Test.YtfbapbgiegploaaSv7
import Derived.Test.YtfbapbgiegploaaSoa
import Derived.Test.YtfbapbgiegploaaCrb
namespace Go.Proofs.Ytfbapbgiegploaa
open Go.ChangeShapes Go.WideShapes Go.ChangeAt Go.RowKit Go.Proofs.Ytfbapbgiegploaa.Smg Go.Proofs.Ytfbapbgiegploaa.Flo
set_option linter.unusedVariables false
attribute [local go_sem] run_store_float
def midF (zs : List Nat) : Nat := (sortF zs)[(zs.length - 1) / 2]?.getD 0
/-- the sum of a row -/
def rowSum (m : Nat) (zs : List Int) (r : Nat) : Int := sumZ (fun i => zs[r * m + i]?.getD 0) m
/-- the corrected counts of a key -/
def corL (m d : Nat) (S : Int) (zs : List Int) (key : Int) : List Nat := (List.range d).map fun i => corB (zs[placeN m S key i]?.getD 0) (rowSum m zs i - zs[placeN m S key i]?.getD 0) ((m : Int) - 1)
theorem corL_length (m d : Nat) (S key : Int) (zs : List Int) : (corL m d S zs key).length = d := by simp [corL]
theorem corL_get (m d : Nat) (S key : Int) (zs : List Int) (i : Nat) (h : i < d) : (corL m d S zs key)[i]?.getD 0 = corB (zs[placeN m S key i]?.getD 0) (rowSum m zs i - zs[placeN m S key i]?.getD 0) ((m : Int) - 1) := by simp [corL, h]
def corR (W D S : Int) (zs : List Int) (key : Int) : Nat × Bool := if cellsB W D S zs && keyB key then (midF (corL W.toNat D.toNat S zs key), true) else (0, false)
theorem corR_y {m d : Nat} {S key : Int} {zs : List Int} (h : CellsOk m d S zs) (hk : keyB key = true) : corR m d S zs key = (midF (corL m d S zs key), true) := by
  unfold corR
  rw [h.cellsB, hk]
  simp
theorem corR_no {W D S key : Int} {zs : List Int} (h : (cellsB W D S zs && keyB key) = false) : corR W D S zs key = (0, false) := by unfold corR; rw [h]; rfl
theorem CellsOk.sum {m d : Nat} {S : Int} {zs : List Int} (h : CellsOk m d S zs) {r : Nat} (hr : r < d) : -64000000000000 ≤ rowSum m zs r ∧ rowSum m zs r ≤ 64000000000000 := by
  have m64 := h.m64
  have hrow : (r + 1) * m ≤ zs.length := by rw [h.len, Nat.mul_comm m d]; exact Nat.mul_le_mul_right m hr
  rw [Nat.add_mul, Nat.one_mul] at hrow
  have := sumZ_bd (f := fun i => zs[r * m + i]?.getD 0) (B := 1000000000000) m (fun i hi => manyB_at h.many (by omega))
  unfold rowSum
  omega
/-- all that a round needs of its floats -/
theorem CellsOk.cor {m d : Nat} {S key : Int} {zs : List Int} (h : CellsOk m d S zs) {r : Nat} (hr : r < d) : ∃ q, CorOk (zs[placeN m S key r]?.getD 0) (rowSum m zs r - zs[placeN m S key r]?.getD 0) ((m : Int) - 1) q := by
  have h1 := h.at2 key hr
  have h2 := h.sum hr
  have m2 := h.m2
  have m64 := h.m64
  exact cor_ok (by omega) (by omega) (by omega) (by omega)
theorem corL_fin {m d : Nat} {S key : Int} {zs : List Int} (h : CellsOk m d S zs) : finB (corL m d S zs key) = true := finB_mk fun i hi => by
  rw [corL_length] at hi
  rw [corL_get _ _ _ _ _ _ hi]
  obtain ⟨q, hq⟩ := h.cor (key := key) hi
  exact hq.e3
/-- the row whose first k cells are told -/
def rowU (zs : List Nat) (k i : Nat) : Value := if i < k then .float .f32 (zs[i]?.getD 0) else .float .f32 0
theorem rowU_step {zs : List Nat} {k : Nat} {w : World} {b c : Nat} {t : TypeId} (h : w.rowIs b t c (rowU zs k)) : (w.setCell ⟨b, k, none⟩ (.float .f32 (zs[k]?.getD 0))).rowIs b t c (rowU zs (k + 1)) := by
  refine (h.set k _).congr fun i hi => ?_
  unfold rowU
  by_cases e : i = k
  · subst e; simp
  · have e2 : (i < k + 1) = (i < k) := by apply propext; omega
    simp [e, e2]
theorem rowU_all {zs : List Nat} {n : Nat} {w : World} {b c : Nat} {t : TypeId} (hz : zs.length = n) (h : w.rowIs b t c (rowU zs n)) : w.rowIs b t c (rowG (Value.float .f32) n (tagF zs 0) (fun _ => .float .f32 0)) := h.congr fun i hi => by
  unfold rowU rowG
  by_cases e : i < n
  · rw [if_pos e, if_pos e]
    subst hz
    simp [tagF, e]
  · rw [if_neg e, if_neg e]
theorem cmpOkF (g : Nat) (w : World) : CmpOk Try.prog leF (fun x => isFin .f32 x = true) 227 (fun x y => #[.float .f32 x, .float .f32 y]) g w := fun u _ x y v hx hy hv =>
  (c_cmpCompareF x y v u hx hy hv).mono (by rintro e w' ⟨rfl, rfl⟩; exact ⟨rfl, 0, rfl⟩)
set_option maxHeartbeats 1000000 in
theorem c_medianOf_f (g n c : Nat) (zs : List Nat) (f : Nat → Value) (w : World) (h1 : 1 ≤ n) (hn : n ≤ 1000) (hz : zs.length = n) (hf : finB zs = true) (hc : n ≤ c) (h : w.rowIs g 28 c (rowG (Value.float .f32) n (tagF zs 0) f)) :
    Calls Try.prog 142 #[.slice (some ⟨g, 0, none⟩) n c] w fun e w' => e = .returned (.float .f32 (midF zs)) ∧ Touch g (g + 1) w w' := by
  have HR := Lib.hid h
  obtain ⟨q, hq⟩ : ∃ q, (n - 1) / 2 = q := ⟨_, rfl⟩
  have hql : q < n := by omega
  have e1 : ((n : Int) - 1) / 2 = (q : Int) := by omega
  have e2 : (q : Int) < (n : Int) := by omega
  have e3 : (0 : Int) ≤ (q : Int) := by omega
  have e4 : (1 : Int) ≤ (n : Int) := by omega
  have e5 : (n : Int) ≤ 1000 := by omega
  have HM := Lib.hid (show (sortF zs)[q]?.getD 0 = midF zs by unfold midF; rw [hz, hq])
  have HZ := Lib.hid hz
  have HF := Lib.hid hf
  clear h hz hq hf
  go_enter Try.func142, Try.ntmps142
  go_wp2_with fail
  refine (c_SortStableF leF leF_tr leF_tot (fun x => isFin .f32 x = true) 0 g n c (tagF zs 0) f _ (by omega) hc (fun k h1 h2 => finB_at HF.out (by rw [HZ.out]; exact h2)) (fun k hk => rfl) (cmpOkF _ _) HR.out).mono ?_
  rintro e w' ⟨g', rfl, r', ⟨s', o'⟩, t'⟩
  have he := sortF_of HZ.out s' o'
  have hcell := r'.cell (i := q) (by omega)
  rw [rowG_at hql] at hcell
  have HV := Lib.hid (show (g' q).1 = midF zs by
    rw [← HM.out, ← he, List.getElem?_map, rowL_get g' n q hql]; rfl)
  rw [HV.out] at hcell
  have T2 := Lib.hid t'
  clear r' s' o' t' he
  go_wp2
  go_ret
  exact ⟨rfl, T2.out⟩
theorem c_spec_l02Number_c (x : Nat) (w : World) (h : isFin .f32 x = true) : Calls Try.prog 177 #[.float .f32 x] w fun e w' => e = .returned (.tuple #[.float .f32 x, .bool true]) ∧ ∃ q, w' = w.drewN q := by
  have C := fun (wx : World) => c_spec_l01Finite x wx
  rw [h] at C
  have HC := Lib.hid C
  clear C h
  go_enter Try.func177, Try.ntmps177
  go_wp2_with (go_at_call 170; refine (HC.out _).mono ?_; rintro e w' ⟨rfl, q, rfl⟩)
  go_ret2
  exact ⟨rfl, _, rfl⟩
end Go.Proofs.Ytfbapbgiegploaa
