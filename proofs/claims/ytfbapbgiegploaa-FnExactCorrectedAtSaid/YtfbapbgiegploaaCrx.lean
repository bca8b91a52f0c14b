/- CorrectedAt: the contracts in the law's form. -/
import Derived.Test.YtfbapbgiegploaaCrd
import Derived.Test.YtfbapbgiegploaaCre
import Derived.Test.YtfbapbgiegploaaLcn
import Derived.Test.YtfbapbgiegploaaCon
namespace Go.Proofs.Ytfbapbgiegploaa
open Go.ChangeShapes Go.WideShapes Go.ChangeAt Go.RowKit Go.Proofs.Ytfbapbgiegploaa.Smg Go.Proofs.Ytfbapbgiegploaa.Flo
set_option linter.unusedVariables false
def corX (W D S : Int) (zs : List Int) (key : Int) : Option Nat × Bool := (some (corR W D S zs key).1, (corR W D S zs key).2)
theorem fin_fvC {b : Nat} (h : isFin .f32 b = true) : fv .f32 b = some b := by
  obtain ⟨s, m, e, hd⟩ := isFin_number h
  exact fv_some (by rw [hd]; rfl)
theorem midF_fin {zs : List Nat} (h : finB zs = true) (h1 : 1 ≤ zs.length) : isFin .f32 (midF zs) = true := by
  have hl := sortF_length zs
  have hq : (zs.length - 1) / 2 < (sortF zs).length := by omega
  unfold midF
  rw [List.getElem?_eq_getElem hq]
  have hm := sortF_mem (List.getElem_mem hq)
  obtain ⟨i, hi, he⟩ := List.mem_iff_getElem.1 hm
  have := finB_at h hi
  rw [List.getElem?_eq_getElem hi] at this
  simp only [Option.getD_some] at this ⊢
  rw [← he]; exact this
theorem corR_fv (W D S : Int) (zs : List Int) (key : Int) : fv .f32 (corR W D S zs key).1 = some (corR W D S zs key).1 := by
  by_cases hp : cellsB W D S zs = true ∧ keyB key = true
  · obtain ⟨m, d, rfl, rfl, ok⟩ := cells_ok hp.1
    rw [corR_y ok hp.2]
    exact fin_fvC (midF_fin (corL_fin ok) (by rw [corL_length]; exact ok.d1))
  · rw [corR_no (both_no hp)]
    decide +kernel
theorem c_impl_CorrectedAtX (W D S : Int) (a : Option Addr) (n cap : Nat) (zs : List Int) (key : Int) (w : World) {v : Option Nat} {b : Bool} (hv : corX W D S zs key = (v, b)) (hm : n ≤ maxLen) (hcap : n ≤ cap ∧ cap ≤ maxLen) (h : Reads w a n (ints zs)) :
    Calls Try.prog 48 #[.agg #[.int .i64 W, .int .i64 D, .int .i64 S, .slice a n cap], .int .i64 key] w fun e w' => ∃ r, e = .returned (.tuple #[.float .f32 r, .bool b]) ∧ fv .f32 r = v ∧ Ext w w' := by
  unfold corX at hv
  simp only [Prod.mk.injEq] at hv
  obtain ⟨rfl, rfl⟩ := hv
  exact (c_impl_CorrectedAt W D S a n cap zs key w rfl hm hcap h).mono (by rintro e w' ⟨rfl, x⟩; exact ⟨_, rfl, corR_fv _ _ _ _ _, x⟩)
theorem c_spec_CorrectedAtX (W D S : Int) (a : Option Addr) (n cap : Nat) (zs : List Int) (key : Int) (w : World) {v : Option Nat} {b : Bool} (hv : corX W D S zs key = (v, b)) (hm : n ≤ maxLen) (hcap : n ≤ cap ∧ cap ≤ maxLen) (h : Reads w a n (ints zs)) :
    Calls Try.prog 71 #[.agg #[.int .i64 W, .int .i64 D, .int .i64 S, .slice a n cap], .int .i64 key] w fun e w' => ∃ r, e = .returned (.tuple #[.float .f32 r, .bool b]) ∧ fv .f32 r = v ∧ Ext w w' := by
  unfold corX at hv
  simp only [Prod.mk.injEq] at hv
  obtain ⟨rfl, rfl⟩ := hv
  exact (c_spec_CorrectedAt W D S a n cap zs key w rfl hm h).mono (by rintro e w' ⟨rfl, x⟩; exact ⟨_, rfl, corR_fv _ _ _ _ _, x⟩)
end Go.Proofs.Ytfbapbgiegploaa
