/- Lists of finite floats in ascending order: what the program answers (cmp.Less, slices.IsSorted, areAscending); sums of integers. -/
import Derived.Test.YtfbapbgiegploaaFar
import Derived.Test.YtfbapbgiegploaaAll
namespace Go.Proofs.Ytfbapbgiegploaa
open Go.ChangeShapes Go.WideShapes Go.ChangeAt Go.RowKit Go.Proofs.Ytfbapbgiegploaa.Flo
set_option linter.unusedVariables false
def getN (zs : List Nat) (i : Nat) : Nat := zs[i]?.getD 0
theorem getN_eq (zs : List Nat) (i : Nat) : zs[i]?.getD 0 = getN zs i := rfl
def AscF (ys : List Nat) : Prop := ∀ i j, i ≤ j → j < ys.length → fkey (getN ys i) ≤ fkey (getN ys j)
theorem getN_fin {zs : List Nat} (h : finB zs = true) {i : Nat} (hi : i < zs.length) : isFin .f32 (getN zs i) = true := finB_at h hi
/-- whether a number is not less than the one before -/
def upAt (zs : List Nat) (i : Nat) : Bool := decide (i = 0 ∨ fkey (getN zs (i - 1)) ≤ fkey (getN zs i))
def ascB (zs : List Nat) : Bool := allTo zs.length (upAt zs)
theorem ascB_asc {zs : List Nat} (h : ascB zs = true) : AscF zs := by
  intro i j hij hj
  induction j with
  | zero => obtain rfl : i = 0 := by omega
            exact Int.le_refl _
  | succ j ih =>
    by_cases e : i = j + 1
    · subst e; exact Int.le_refl _
    · have h1 := ih (by omega) (by omega)
      have h2 := of_decide_eq_true (allTo_at h hj)
      rcases h2 with h2 | h2
      · omega
      · exact Int.le_trans h1 h2
theorem fin_notNaN {x : Nat} (h : isFin .f32 x = true) : (FloatKind.f32.decode x).isNaN = false := by
  obtain ⟨s, m, e, he⟩ := isFin_number h
  rw [he]; rfl
theorem c_isNaNF (x : Nat) (w : World) (h : isFin .f32 x = true) : Calls Try.prog 280 #[.float .f32 x] w fun e w' => e = .returned (.bool false) ∧ w = w' := by
  have hs := order_self .f32 x
  rw [fin_notNaN h] at hs
  have hs' := bne_of_beq hs
  clear h
  go_enter Try.func280, Try.ntmps280
  go_wp2
  go_ret
  exact ⟨by first | rfl | (rw [hs']; rfl), rfl⟩
theorem c_impl_sumOfT (a : Option Addr) (n cap : Nat) (zs : List Int) (w : World) {s : Int} (hs : sumTo (getI zs) n = s) (hn : n ≤ 1048576) (hb : ∀ i, i < n → -1000000000000 ≤ getI zs i ∧ getI zs i ≤ 1000000000000) (h : Reads w a n (ints zs)) :
    Calls Try.prog 140 #[.slice a n cap] w fun e w' => e = .returned (.int .i64 s) ∧ w' = w := by
  obtain ⟨hz, hrd⟩ := h.int
  have HR := Lib.hid hrd
  have HS := Lib.hid hs
  have HB := Lib.hid hb
  obtain ⟨f, hf⟩ : ∃ f : Nat → Int, getI zs = f := ⟨_, rfl⟩
  have HF := Lib.hid (show ∀ i, zs[i]?.getD 0 = f i from fun i => congrFun hf i)
  have HFF := Lib.hid hf
  clear h hz hrd hs hb hf
  go_enter Try.func140, Try.ntmps140
  go_wp2
  go_loop [3, 8] (fun s i => ∃ k : Nat, k ≤ n ∧ i = .int .i64 k ∧ s = .int .i64 (sumTo f k)) (fun _ i => n - (intOf i).toNat)
  case atStart => exact ⟨0, by omega, rfl, rfl⟩
  case round =>
    obtain ⟨k, hk, rfl, rfl⟩ := hrel
    by_cases hlt : k < n
    · rcases HR.out with h0 | ⟨b, off, rfl, hc⟩
      · omega
      have hcell := hc k hlt
      rw [HF.out] at hcell
      have HB' := Lib.hid (show ∀ i, i < n → -1000000000000 ≤ f i ∧ f i ≤ 1000000000000 by rw [← HFF.out]; exact HB.out)
      have b1 := sumTo_bd (f := f) (n := k) (fun i hi => HB'.out i (by omega))
      have b2 := HB'.out k hlt
      have HSS := Lib.hid (sumTo_succ f k)
      obtain ⟨x, hx⟩ : ∃ x, f k = x := ⟨_, rfl⟩
      obtain ⟨y, hy⟩ : ∃ y, sumTo f k = y := ⟨_, rfl⟩
      rw [hx] at hcell b2
      rw [hy] at b1 ⊢
      have x1 := b2.1
      have x2 := b2.2
      have y1 : -4611686018427387904 ≤ y := by omega
      have y2 : y ≤ 4611686018427387904 := by omega
      have HX := Lib.hid hx
      have HY := Lib.hid hy
      clear hc b1 b2 hx hy
      go_wp2
      go_round
      case rel => exact ⟨k + 1, by omega, by go_num, by first | (rw [HSS.out, HX.out, HY.out]; done) | (rw [HSS.out, HX.out, HY.out]; rfl) | (rw [HSS.out, HX.out, HY.out]; first | (congr 1; rw [IntKind.wrap_i64]; omega))⟩
      case measure => simp [intOf]; omega
    · obtain rfl : k = n := by omega
      have HE := Lib.hid (show sumTo f k = s by rw [← HFF.out]; exact HS.out)
      go_wp2
      go_ret
      exact ⟨by first | (rw [HE.out]; done) | (rw [HE.out]; rfl), rfl⟩
end Go.Proofs.Ytfbapbgiegploaa
