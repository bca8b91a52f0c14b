/- RankIn: how many numbers are at most one; both sides. -/
import Derived.Test.YtibldgcfplpdkaaSos
import Derived.Test.YtibldgcfplpdkaaPlc
namespace Go.Proofs.Ytibldgcfplpdkaa
open Go.ChangeShapes Go.WideShapes Go.ChangeAt Go.RowKit Go.Proofs.Ytibldgcfplpdkaa.Smg Go.Proofs.Ytibldgcfplpdkaa.Flo
set_option linter.unusedVariables false
theorem cntLe_sort (zs : List Nat) (x : Nat) : cntLe (sortF zs) x = cntLe zs x := ((List.mergeSort_perm zs leF).filter _).length_eq
theorem sortF_asc (zs : List Nat) : AscF (sortF zs) := by
  have hp : (sortF zs).Pairwise (fun a b => leF a b = true) := List.pairwise_mergeSort (fun a b c => leF_tr a b c) (fun a b => by rcases leF_tot a b with h | h <;> simp [h]) zs
  rw [List.pairwise_iff_getElem] at hp
  intro i j hij hj
  unfold getN
  rw [List.getElem?_eq_getElem (by omega), List.getElem?_eq_getElem hj]
  by_cases e : i = j
  · subst e; exact Int.le_refl _
  · exact of_decide_eq_true (hp i j (by omega) hj (by omega))
theorem sortF_fin {zs : List Nat} (h : finB zs = true) : finB (sortF zs) = true := by
  unfold finB at *
  rw [List.all_eq_true] at *
  exact fun x hx => h x (sortF_mem hx)
def rankR (zs : List Nat) (x : Nat) : Int × Bool := if listB zs && isFin .f32 x then (((cntLe zs x : Nat) : Int), true) else (0, false)
theorem rankR_1 {zs : List Nat} {x : Nat} (h : listB zs = false) : rankR zs x = (0, false) := by unfold rankR; rw [h]; rfl
theorem rankR_2 {zs : List Nat} {x : Nat} (h : isFin .f32 x = false) : rankR zs x = (0, false) := by unfold rankR; rw [h]; simp
theorem rankR_y {zs : List Nat} {x : Nat} (h : listB zs = true) (h' : isFin .f32 x = true) : rankR zs x = (((cntLe zs x : Nat) : Int), true) := by unfold rankR; rw [h, h']; rfl
set_option maxHeartbeats 1000000 in
theorem c_impl_RankIn (a : Option Addr) (n cap : Nat) (zs : List Nat) (x : Nat) (w : World) {v : Int} {rb : Bool} (hv : rankR zs x = (v, rb)) (hm : n ≤ 1048576) (h : Reads w a n (flos zs)) (hb : ∀ z ∈ zs, z < 4294967296) (hx : x < 4294967296) :
    Calls Try.prog 30 #[.slice a n cap, .float .f32 x] w fun e w' => e = .returned (.tuple #[.int .i64 v, .bool rb]) ∧ Ext w w' := by
  have hz := h.flo.1
  have H := Lib.hid h
  have HB := Lib.hid hb
  have HX := Lib.hid hx
  cases hl : listB zs
  · rw [rankR_1 hl] at hv
    cases hv
    have HS := Lib.hid (sortR_no hl)
    clear h hb hl hx
    go_enter Try.func30, Try.ntmps30
    go_wp2_with (go_at_call 27; refine (c_impl_SortedOf _ _ _ zs _ HS.out hm H.out HB.out).mono ?_; rintro e w' ⟨a', c', rfl, o', x'⟩; have X' := Lib.hid x'; clear o' x')
    go_ret2
    exact ⟨rfl, X'.out⟩
  · have HS := Lib.hid (sortR_yes hl)
    have ok := Lib.hid (list_ok hl)
    cases hfx : isFin .f32 x
    · rw [rankR_2 hfx] at hv
      cases hv
      have FX := Lib.hid hfx
      clear h hb hl hx hfx
      go_enter Try.func30, Try.ntmps30
      go_wp2_with fail
      refine (c_impl_SortedOf _ _ _ zs _ HS.out hm H.out HB.out).mono ?_; rintro e w1 ⟨a', c', rfl, o', x'⟩; have X' := Lib.hid x'; clear o' x'
      go_wp2_with fail
      refine (c_impl_IsFinite_b x _ HX.out FX.out).mono ?_; rintro e w2 ⟨rfl, q, rfl⟩
      go_wp2
      go_ret2
      exact ⟨rfl, X'.out.stepN _⟩
    · rw [rankR_y hl hfx] at hv
      cases hv
      have FX := Lib.hid hfx
      have HC := Lib.hid (cntLe_sort zs x)
      clear h hb hl hx hfx
      go_enter Try.func30, Try.ntmps30
      go_wp2_with fail
      refine (c_impl_SortedOf _ _ _ zs _ HS.out hm H.out HB.out).mono ?_; rintro e w1 ⟨a', c', rfl, o', x'⟩
      have X' := Lib.hid x'; have O' := Lib.hid o'; clear o' x'
      go_wp2_with fail
      refine (c_impl_IsFinite_b x _ HX.out FX.out).mono ?_; rintro e w2 ⟨rfl, q, rfl⟩
      go_wp2_with fail
      refine (c_impl_placeBehind _ _ _ (sortF zs) x _ (by rw [sortF_length]; have := ok.out.hi; omega) (sortF_fin ok.out.fin) FX.out (sortF_asc zs) (O'.out.reads.on (Ext.drewN _ _))).mono ?_; rintro e w3 ⟨rfl, x'⟩
      have X3 := Lib.hid ((X'.out.stepN q).trans x'); clear x'
      go_wp2
      go_ret2
      exact ⟨ret_ib2 (by rw [HC.out]), X3.out⟩
end Go.Proofs.Ytibldgcfplpdkaa
