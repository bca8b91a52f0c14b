/- Lists of finite floats in ascending order: what the program answers (cmp.Less, slices.IsSorted, areAscending); sums of integers. -/
import Derived.Test.YtmlnnnagbkknhabFar
import Derived.Test.YtmlnnnagbkknhabAll
namespace Go.Proofs.Ytmlnnnagbkknhab
open Go.ChangeShapes Go.WideShapes Go.ChangeAt Go.RowKit Go.Proofs.Ytmlnnnagbkknhab.Flo
set_option linter.unusedVariables false
def getN (zs : List Nat) (i : Nat) : Nat := zs[i]?.getD 0
theorem getN_eq (zs : List Nat) (i : Nat) : zs[i]?.getD 0 = getN zs i := rfl
def AscF (ys : List Nat) : Prop := ∀ i j, i ≤ j → j < ys.length → fkey (getN ys i) ≤ fkey (getN ys j)
theorem getN_fin {zs : List Nat} (h : finB zs = true) {i : Nat} (hi : i < zs.length) : isFin .f32 (getN zs i) = true := finB_at h hi
/-- whether a number is not less than the one before -/
def upAt (zs : List Nat) (i : Nat) : Bool := decide (i = 0 ∨ fkey (getN zs (i - 1)) ≤ fkey (getN zs i))
def ascB (zs : List Nat) : Bool := allTo zs.length (upAt zs)
theorem ascB_asc {zs : List Nat} (h : ascB zs = true) : AscF zs := by
  intro i j hij hj
  induction j with
  | zero => obtain rfl : i = 0 := by omega
            exact Int.le_refl _
  | succ j ih =>
    by_cases e : i = j + 1
    · subst e; exact Int.le_refl _
    · have h1 := ih (by omega) (by omega)
      have h2 := of_decide_eq_true (allTo_at h hj)
      rcases h2 with h2 | h2
      · omega
      · exact Int.le_trans h1 h2
theorem fin_notNaN {x : Nat} (h : isFin .f32 x = true) : (FloatKind.f32.decode x).isNaN = false := by
  obtain ⟨s, m, e, he⟩ := isFin_number h
  rw [he]; rfl
theorem c_isNaNF (x : Nat) (w : World) (h : isFin .f32 x = true) : Calls Try.prog 154 #[.float .f32 x] w fun e w' => e = .returned (.bool false) ∧ w = w' := by
  have hs := order_self .f32 x
  rw [fin_notNaN h] at hs
  have hs' := bne_of_beq hs
  clear h
  go_enter Try.func154, Try.ntmps154
  go_wp2
  go_ret
  exact ⟨by first | rfl | (rw [hs']; rfl), rfl⟩
theorem c_cmpLessF (x y : Nat) (w : World) {b : Bool} (hx : isFin .f32 x = true) (hy : isFin .f32 y = true) (h : decide (fkey x < fkey y) = b) : Calls Try.prog 140 #[.float .f32 x, .float .f32 y] w fun e w' => e = .returned (.bool b) ∧ w' = w := by
  have kl := key_lt hx hy
  rw [h] at kl
  have HX := Lib.hid hx
  clear hx hy h
  go_enter Try.func140, Try.ntmps140
  go_wp2_with fail
  refine (c_isNaNF x _ HX.out).mono ?_; rintro e w' ⟨rfl, rfl⟩
  go_wp2
  go_ret
  exact ⟨rfl, rfl⟩
set_option maxHeartbeats 1000000 in
theorem c_IsSortedF (a : Option Addr) (n cap : Nat) (zs : List Nat) (w : World) {r : Bool} (hr : ascB zs = r) (hn : n ≤ maxLen) (hf : finB zs = true) (h : Reads w a n (flos zs)) :
    Calls Try.prog 132 #[.slice a n cap] w fun e w' => e = .returned (.bool r) ∧ ∃ q, w' = w.drewN q := by
  unfold maxLen at hn
  obtain ⟨hz, hrd⟩ := h.flo
  have HZ := Lib.hid hz
  have HR := Lib.hid hrd
  have HF := Lib.hid hf
  have HB := Lib.hid hr
  clear h hz hrd hf hr
  by_cases h0 : n = 0
  · subst h0
    have HT := Lib.hid (show r = true by rw [← HB.out]; exact allTo_yes fun i hi => by rw [HZ.out] at hi; omega)
    go_enter Try.func132, Try.ntmps132
    go_wp2
    go_loop [3] (fun i => i = .int .i64 (-1)) (fun _ => 0)
    case atStart => rfl
    case round =>
      obtain rfl := hrel
      go_wp2
      go_ret
      exact ⟨retB (by rw [HT.out]), 0, rfl⟩
  obtain ⟨m, hm⟩ : ∃ m, n = m + 1 := ⟨n - 1, by omega⟩
  have e0 : (n : Int) - 1 = (m : Int) := by omega
  have HM := Lib.hid hm
  clear hm h0
  go_enter Try.func132, Try.ntmps132
  go_wp2
  clear e0
  go_loopw [3] (fun i wr => ∃ k q : Nat, k < n ∧ i = .int .i64 k ∧ wr = w.drewN q ∧ ∀ j, k < j → j < n → upAt zs j = true) (fun i _ => (intOf i).toNat)
  case atStart => have := HM.out; exact ⟨m, 0, by omega, by first | rfl | (rw [this]; go_num), rfl, fun j h1 h2 => by omega⟩
  case round =>
    obtain ⟨k, q, hk, rfl, hw, hall⟩ := hrel
    have HW := Lib.hid hw
    have HA := Lib.hid hall
    clear hw hall
    by_cases hlt : k = 0
    · subst hlt
      have HT := Lib.hid (show r = true by
        rw [← HB.out]
        refine allTo_yes fun i hi => ?_
        rw [HZ.out] at hi
        by_cases e : i = 0
        · subst e; exact decide_eq_true (.inl rfl)
        · exact HA.out i (by omega) hi)
      go_wp2
      go_ret
      exact ⟨retB (by rw [HT.out]), _, HW.out⟩
    · obtain ⟨i, hi⟩ : ∃ i, k = i + 1 := ⟨k - 1, by omega⟩
      rcases HR.out with h0 | ⟨b, off, rfl, hc⟩
      · omega
      have c1 : w.cell? ⟨b, off + k, none⟩ = some (.float .f32 (getN zs k)) := hc k hk
      have c2 : w.cell? ⟨b, off + i, none⟩ = some (.float .f32 (getN zs i)) := hc i (by omega)
      have d1 : wr.cell? ⟨b, off + k, none⟩ = some (.float .f32 (getN zs k)) := by rw [HW.out]; exact c1
      have d2 : wr.cell? ⟨b, off + i, none⟩ = some (.float .f32 (getN zs i)) := by rw [HW.out]; exact c2
      obtain ⟨x, hx⟩ : ∃ x, getN zs k = x := ⟨_, rfl⟩
      obtain ⟨y, hy⟩ : ∃ y, getN zs i = y := ⟨_, rfl⟩
      have FX := Lib.hid (show isFin .f32 x = true by rw [← hx]; exact getN_fin HF.out (by rw [HZ.out]; exact hk))
      have FY := Lib.hid (show isFin .f32 y = true by rw [← hy]; exact getN_fin HF.out (by rw [HZ.out]; omega))
      have HU := Lib.hid (show upAt zs k = decide (fkey y ≤ fkey x) by
        unfold upAt
        rw [show k - 1 = i by omega, hx, hy]
        by_cases e : fkey y ≤ fkey x
        · rw [decide_eq_true e, decide_eq_true (.inr e)]
        · rw [decide_eq_false e, decide_eq_false (by omega)])
      rw [hx] at d1
      rw [hy] at d2
      have e1 : (k : Int) - 1 = (i : Int) := by omega
      have e2 : (0 : Int) < (k : Int) := by omega
      have e3 : (i : Int) < (n : Int) := by omega
      have e4 : (k : Int) < (n : Int) := by omega
      have HI := Lib.hid hi
      cases hb : decide (fkey x < fkey y)
      · have HBB := Lib.hid hb
        have HN := Lib.hid (show ∀ j, i < j → j < n → upAt zs j = true from fun j h1 h2 => by
          by_cases e : j = k
          · subst e; rw [HU.out]; exact decide_eq_true (Int.not_lt.1 (of_decide_eq_false hb))
          · exact HA.out j (by omega) h2)
        clear c1 c2 hc hx hy hb hi
        go_wp2
        go_quiet ((go_at_call 140; exact Calls.quiet_of_same (c_cmpLessF x y _ FX.out FY.out HBB.out)))
        go_wp2
        go_roundw
        case rel => have := HI.out; exact ⟨i, _, by omega, by go_num, by rw [HW.out, World.drewN_drewN], HN.out⟩
        case measure => have := HI.out; simp [intOf]; omega
      · have HBB := Lib.hid hb
        have HT := Lib.hid (show r = false by
          rw [← HB.out]
          exact allTo_no (i := k) (by rw [HZ.out]; exact hk) (by rw [HU.out]; exact decide_eq_false (by have := of_decide_eq_true hb; omega)))
        clear c1 c2 hc hx hy hb hi
        go_wp2
        go_quiet ((go_at_call 140; exact Calls.quiet_of_same (c_cmpLessF x y _ FX.out FY.out HBB.out)))
        go_wp2
        go_ret
        exact ⟨retB (by rw [HT.out]), _, by rw [HW.out, World.drewN_drewN]⟩
theorem c_impl_areAscending (a : Option Addr) (n cap : Nat) (zs : List Nat) (w : World) {r : Bool} (hr : (finB zs && ascB zs) = r) (hn : n ≤ maxLen) (hb : ∀ z ∈ zs, z < 4294967296) (h : Reads w a n (flos zs)) :
    Calls Try.prog 117 #[.slice a n cap] w fun e w' => e = .returned (.bool r) ∧ ∃ q, w' = w.drewN q := by
  have H := Lib.hid h
  have HB := Lib.hid hb
  have HN := Lib.hid hn
  cases hf : finB zs
  · rw [hf] at hr
    have HR := Lib.hid (show r = false by rw [← hr]; rfl)
    have HF := Lib.hid hf
    clear h hb hn hf hr
    go_enter Try.func117, Try.ntmps117
    go_wp2_with (go_at_call 106; refine (c_impl_areFinite _ _ _ zs _ HF.out HN.out HB.out H.out).mono ?_; rintro e w' ⟨rfl, q, rfl⟩)
    go_ret
    exact ⟨retB (by rw [HR.out]), _, rfl⟩
  · rw [hf, Bool.true_and] at hr
    have HR := Lib.hid hr
    have HF := Lib.hid hf
    clear h hb hn hf hr
    go_enter Try.func117, Try.ntmps117
    go_wp2_with fail
    refine (c_impl_areFinite _ _ _ zs _ HF.out HN.out HB.out H.out).mono ?_; rintro e w1 ⟨rfl, q1, rfl⟩
    go_wp2_with fail
    refine (c_IsSortedF _ _ _ zs _ HR.out HN.out HF.out (H.out.on (Ext.drewN _ _))).mono ?_; rintro e w2 ⟨rfl, q2, rfl⟩
    go_wp2
    go_ret
    exact ⟨rfl, _, by first | rfl | rw [World.drewN_drewN]⟩
theorem c_impl_sumOfT (a : Option Addr) (n cap : Nat) (zs : List Int) (w : World) {s : Int} (hs : sumTo (getI zs) n = s) (hn : n ≤ 1048576) (hb : ∀ i, i < n → -1000000000000 ≤ getI zs i ∧ getI zs i ≤ 1000000000000) (h : Reads w a n (ints zs)) :
    Calls Try.prog 95 #[.slice a n cap] w fun e w' => e = .returned (.int .i64 s) ∧ w' = w := by
  obtain ⟨hz, hrd⟩ := h.int
  have HR := Lib.hid hrd
  have HS := Lib.hid hs
  have HB := Lib.hid hb
  obtain ⟨f, hf⟩ : ∃ f : Nat → Int, getI zs = f := ⟨_, rfl⟩
  have HF := Lib.hid (show ∀ i, zs[i]?.getD 0 = f i from fun i => congrFun hf i)
  have HFF := Lib.hid hf
  clear h hz hrd hs hb hf
  go_enter Try.func95, Try.ntmps95
  go_wp2
  go_loop [3, 8] (fun s i => ∃ k : Nat, k ≤ n ∧ i = .int .i64 k ∧ s = .int .i64 (sumTo f k)) (fun _ i => n - (intOf i).toNat)
  case atStart => exact ⟨0, by omega, rfl, rfl⟩
  case round =>
    obtain ⟨k, hk, rfl, rfl⟩ := hrel
    by_cases hlt : k < n
    · rcases HR.out with h0 | ⟨b, off, rfl, hc⟩
      · omega
      have hcell := hc k hlt
      rw [HF.out] at hcell
      have HB' := Lib.hid (show ∀ i, i < n → -1000000000000 ≤ f i ∧ f i ≤ 1000000000000 by rw [← HFF.out]; exact HB.out)
      have b1 := sumTo_bd (f := f) (n := k) (fun i hi => HB'.out i (by omega))
      have b2 := HB'.out k hlt
      have HSS := Lib.hid (sumTo_succ f k)
      obtain ⟨x, hx⟩ : ∃ x, f k = x := ⟨_, rfl⟩
      obtain ⟨y, hy⟩ : ∃ y, sumTo f k = y := ⟨_, rfl⟩
      rw [hx] at hcell b2
      rw [hy] at b1 ⊢
      have x1 := b2.1
      have x2 := b2.2
      have y1 : -4611686018427387904 ≤ y := by omega
      have y2 : y ≤ 4611686018427387904 := by omega
      have HX := Lib.hid hx
      have HY := Lib.hid hy
      clear hc b1 b2 hx hy
      go_wp2
      go_round
      case rel => exact ⟨k + 1, by omega, by go_num, by first | (rw [HSS.out, HX.out, HY.out]; done) | (rw [HSS.out, HX.out, HY.out]; rfl) | (rw [HSS.out, HX.out, HY.out]; first | (congr 1; rw [IntKind.wrap_i64]; omega))⟩
      case measure => simp [intOf]; omega
    · obtain rfl : k = n := by omega
      have HE := Lib.hid (show sumTo f k = s by rw [← HFF.out]; exact HS.out)
      go_wp2
      go_ret
      exact ⟨by first | (rw [HE.out]; done) | (rw [HE.out]; rfl), rfl⟩
end Go.Proofs.Ytmlnnnagbkknhab
