/- QuantileIn: both sides. -/
import Derived.Test.YtibldgcfplpdkaaRnk
import Derived.Test.YtibldgcfplpdkaaCei
namespace Go.Proofs.Ytibldgcfplpdkaa
open Go.ChangeShapes Go.WideShapes Go.ChangeAt Go.RowKit Go.Proofs.Ytibldgcfplpdkaa.Flo
set_option linter.unusedVariables false
def quanR (zs : List Nat) (x : Nat) : Option Nat × Bool := if listB zs && shareB x then (some (getN (sortF zs) (placeR x (zs.length : Int) - 1).toNat), true) else (some 0, false)
theorem quanR_1 {zs : List Nat} {x : Nat} (h : listB zs = false) : quanR zs x = (some 0, false) := by unfold quanR; rw [h]; rfl
theorem quanR_2 {zs : List Nat} {x : Nat} (h : shareB x = false) : quanR zs x = (some 0, false) := by unfold quanR; rw [h]; simp
theorem quanR_y {zs : List Nat} {x : Nat} (h : listB zs = true) (h' : shareB x = true) : quanR zs x = (some (getN (sortF zs) (placeR x (zs.length : Int) - 1).toNat), true) := by unfold quanR; rw [h, h']; rfl
theorem fv0 : fv .f32 0 = some 0 := fv_some (by rw [dec_zero]; rfl)
theorem fv_fin {y : Nat} (h : isFin .f32 y = true) : fv .f32 y = some y := by
  obtain ⟨s, m, e, hd⟩ := isFin_number h
  exact fv_some (by rw [hd]; rfl)
set_option maxHeartbeats 1000000 in
theorem c_impl_QuantileIn (a : Option Addr) (n cap : Nat) (zs : List Nat) (x : Nat) (w : World) {v : Option Nat} {rb : Bool} (hv : quanR zs x = (v, rb)) (hm : n ≤ 1048576) (h : Reads w a n (flos zs)) (hb : ∀ z ∈ zs, z < 4294967296) (hx : x < 4294967296) :
    Calls Try.prog 28 #[.slice a n cap, .float .f32 x] w fun e w' => ∃ f, e = .returned (.tuple #[.float .f32 f, .bool rb]) ∧ fv .f32 f = v ∧ Ext w w' := by
  have hz := h.flo.1
  have H := Lib.hid h
  have HB := Lib.hid hb
  cases hl : listB zs
  · rw [quanR_1 hl] at hv
    cases hv
    have HS := Lib.hid (sortR_no hl)
    clear h hb hl hx
    go_enter Try.func28, Try.ntmps28
    go_wp2_with (go_at_call 27; refine (c_impl_SortedOf _ _ _ zs _ HS.out hm H.out HB.out).mono ?_; rintro e w' ⟨a', c', rfl, o', x'⟩; have X' := Lib.hid x'; clear o' x')
    go_ret2
    exact ⟨_, rfl, fv0, X'.out⟩
  · have HS := Lib.hid (sortR_yes hl)
    have ok := Lib.hid (list_ok hl)
    cases hs : shareB x
    · rw [quanR_2 hs] at hv
      cases hv
      have HSH := Lib.hid hs
      clear h hb hl hx hs
      go_enter Try.func28, Try.ntmps28
      go_wp2_with fail
      refine (c_impl_SortedOf _ _ _ zs _ HS.out hm H.out HB.out).mono ?_; rintro e w1 ⟨a', c', rfl, o', x'⟩; have X' := Lib.hid x'; clear o' x'
      go_wp2_with fail
      refine (c_impl_isShare x _ HSH.out).mono ?_; rintro e w2 ⟨rfl, rfl⟩
      go_wp2
      go_ret2
      exact ⟨_, rfl, fv0, X'.out⟩
    · rw [quanR_y hl hs] at hv
      have hlo := ok.out.lo
      have hhi := ok.out.hi
      have hp1 := placeR_lo (x := x) (n := (zs.length : Int)) (by omega)
      have hp2 := placeR_hi (x := x) (n := (zs.length : Int))
      obtain ⟨k, hk⟩ : ∃ k : Nat, placeR x (zs.length : Int) = (k : Int) + 1 := ⟨(placeR x (zs.length : Int) - 1).toNat, by omega⟩
      have e1 : (k : Int) + 1 - 1 = (k : Int) := by omega
      rw [hk, e1, Int.toNat_natCast] at hv
      rw [hk] at hp1 hp2
      have hkn : k < n := by omega
      have hkn' : (k : Int) < (n : Int) := by omega
      obtain ⟨y, hy⟩ : ∃ y, getN (sortF zs) k = y := ⟨_, rfl⟩
      rw [hy] at hv
      cases hv
      have HK := Lib.hid (show placeR x (n : Int) = (k : Int) + 1 by rw [← hz]; exact hk)
      have HY := Lib.hid hy
      have HF := Lib.hid (show fv .f32 y = some y from fv_fin (by rw [← hy]; exact finB_at (sortF_fin ok.out.fin) (by rw [sortF_length]; omega)))
      have HSH := Lib.hid hs
      have N1 := Lib.hid (show (0 : Int) ≤ (n : Int) ∧ (n : Int) ≤ 2097152 by omega)
      clear h hb hl hx hs hk hy hp1 hp2 hlo hhi
      go_enter Try.func28, Try.ntmps28
      go_wp2_with fail
      refine (c_impl_SortedOf _ _ _ zs _ HS.out hm H.out HB.out).mono ?_; rintro e w1 ⟨a', c', rfl, o', x'⟩
      have X' := Lib.hid x'
      have HL := Lib.hid (sortF_length zs)
      rcases o'.reads.flo.2 with he | ⟨g, off, rfl, hc⟩
      · exfalso; have := HL.out; omega
      have hcell : w1.cell? ⟨g, off + k, none⟩ = some (.float .f32 y) := by rw [← HY.out]; exact hc k (by rw [HL.out]; omega)
      have hlk : (k : Int) < ((sortF zs).length : Int) := by rw [HL.out]; omega
      clear o' x' hc
      go_wp2_with fail
      refine (c_impl_isShare x _ HSH.out).mono ?_; rintro e w2 ⟨rfl, rfl⟩
      go_wp2_with fail
      refine (c_impl_rankOfShare x _ _ HK.out HSH.out N1.out.1 N1.out.2).mono ?_; rintro e w3 ⟨rfl, rfl⟩
      go_wp2
      go_ret2
      exact ⟨_, rfl, HF.out, X'.out⟩
end Go.Proofs.Ytibldgcfplpdkaa
