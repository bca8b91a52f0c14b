/- RankIn: how many numbers are at most one; both sides. -/
import Derived.Test.YtmgkbgdbahijnabSos
import Derived.Test.YtmgkbgdbahijnabPlc
namespace Go.Proofs.Ytmgkbgdbahijnab
open Go.ChangeShapes Go.WideShapes Go.ChangeAt Go.RowKit Go.Proofs.Ytmgkbgdbahijnab.Smg Go.Proofs.Ytmgkbgdbahijnab.Flo
set_option linter.unusedVariables false
theorem cntLe_sort (zs : List Nat) (x : Nat) : cntLe (sortF zs) x = cntLe zs x := ((List.mergeSort_perm zs leF).filter _).length_eq
theorem sortF_asc (zs : List Nat) : AscF (sortF zs) := by
  have hp : (sortF zs).Pairwise (fun a b => leF a b = true) := List.pairwise_mergeSort (fun a b c => leF_tr a b c) (fun a b => by rcases leF_tot a b with h | h <;> simp [h]) zs
  rw [List.pairwise_iff_getElem] at hp
  intro i j hij hj
  unfold getN
  rw [List.getElem?_eq_getElem (by omega), List.getElem?_eq_getElem hj]
  by_cases e : i = j
  · subst e; exact Int.le_refl _
  · exact of_decide_eq_true (hp i j (by omega) hj (by omega))
theorem sortF_fin {zs : List Nat} (h : finB zs = true) : finB (sortF zs) = true := by
  unfold finB at *
  rw [List.all_eq_true] at *
  exact fun x hx => h x (sortF_mem hx)
def rankR (zs : List Nat) (x : Nat) : Int × Bool := if listB zs && isFin .f32 x then (((cntLe zs x : Nat) : Int), true) else (0, false)
theorem rankR_1 {zs : List Nat} {x : Nat} (h : listB zs = false) : rankR zs x = (0, false) := by unfold rankR; rw [h]; rfl
theorem rankR_2 {zs : List Nat} {x : Nat} (h : isFin .f32 x = false) : rankR zs x = (0, false) := by unfold rankR; rw [h]; simp
theorem rankR_y {zs : List Nat} {x : Nat} (h : listB zs = true) (h' : isFin .f32 x = true) : rankR zs x = (((cntLe zs x : Nat) : Int), true) := by unfold rankR; rw [h, h']; rfl
set_option maxHeartbeats 1000000 in
theorem c_impl_RankIn (a : Option Addr) (n cap : Nat) (zs : List Nat) (x : Nat) (w : World) {v : Int} {rb : Bool} (hv : rankR zs x = (v, rb)) (hm : n ≤ 1048576) (h : Reads w a n (flos zs)) (hb : ∀ z ∈ zs, z < 4294967296) (hx : x < 4294967296) :
    Calls Try.prog 43 #[.slice a n cap, .float .f32 x] w fun e w' => e = .returned (.tuple #[.int .i64 v, .bool rb]) ∧ Ext w w' := by
  have hz := h.flo.1
  have H := Lib.hid h
  have HB := Lib.hid hb
  have HX := Lib.hid hx
  cases hl : listB zs
  · rw [rankR_1 hl] at hv
    cases hv
    have HS := Lib.hid (sortR_no hl)
    clear h hb hl hx
    go_enter Try.func43, Try.ntmps43
    go_wp2_with (go_at_call 40; refine (c_impl_SortedOf _ _ _ zs _ HS.out hm H.out HB.out).mono ?_; rintro e w' ⟨a', c', rfl, o', x'⟩; have X' := Lib.hid x'; clear o' x')
    go_ret2
    exact ⟨rfl, X'.out⟩
  · have HS := Lib.hid (sortR_yes hl)
    have ok := Lib.hid (list_ok hl)
    cases hfx : isFin .f32 x
    · rw [rankR_2 hfx] at hv
      cases hv
      have FX := Lib.hid hfx
      clear h hb hl hx hfx
      go_enter Try.func43, Try.ntmps43
      go_wp2_with fail
      refine (c_impl_SortedOf _ _ _ zs _ HS.out hm H.out HB.out).mono ?_; rintro e w1 ⟨a', c', rfl, o', x'⟩; have X' := Lib.hid x'; clear o' x'
      go_wp2_with fail
      refine (c_impl_IsFinite_b x _ HX.out FX.out).mono ?_; rintro e w2 ⟨rfl, q, rfl⟩
      go_wp2
      go_ret2
      exact ⟨rfl, X'.out.stepN _⟩
    · rw [rankR_y hl hfx] at hv
      cases hv
      have FX := Lib.hid hfx
      have HC := Lib.hid (cntLe_sort zs x)
      clear h hb hl hx hfx
      go_enter Try.func43, Try.ntmps43
      go_wp2_with fail
      refine (c_impl_SortedOf _ _ _ zs _ HS.out hm H.out HB.out).mono ?_; rintro e w1 ⟨a', c', rfl, o', x'⟩
      have X' := Lib.hid x'; have O' := Lib.hid o'; clear o' x'
      go_wp2_with fail
      refine (c_impl_IsFinite_b x _ HX.out FX.out).mono ?_; rintro e w2 ⟨rfl, q, rfl⟩
      go_wp2_with fail
      refine (c_impl_placeBehind _ _ _ (sortF zs) x _ (by rw [sortF_length]; have := ok.out.hi; omega) (sortF_fin ok.out.fin) FX.out (sortF_asc zs) (O'.out.reads.on (Ext.drewN _ _))).mono ?_; rintro e w3 ⟨rfl, x'⟩
      have X3 := Lib.hid ((X'.out.stepN q).trans x'); clear x'
      go_wp2
      go_ret2
      exact ⟨ret_ib2 (by rw [HC.out]), X3.out⟩
set_option maxHeartbeats 1000000 in
theorem c_spec_RankIn (a : Option Addr) (n cap : Nat) (zs : List Nat) (x : Nat) (w : World) {v : Int} {rb : Bool} (hv : rankR zs x = (v, rb)) (hm : n ≤ 1048576) (h : Reads w a n (flos zs)) (hb : ∀ z ∈ zs, z < 4294967296) (hx : x < 4294967296) :
    Calls Try.prog 42 #[.slice a n cap, .float .f32 x] w fun e w' => e = .returned (.tuple #[.int .i64 v, .bool rb]) ∧ Ext w w' := by
  obtain ⟨hz, hrd⟩ := h.flo
  have H := Lib.hid h
  have HM := Lib.hid (show n ≤ maxLen by unfold maxLen; omega)
  have HZ := Lib.hid hz
  cases hl : listB zs
  · rw [rankR_1 hl] at hv
    cases hv
    have HL := Lib.hid hl
    clear h hb hl hx hrd
    go_enter Try.func42, Try.ntmps42
    go_wp2_with (go_at_call 90; refine (c_spec_l05List _ _ _ zs _ HL.out HM.out H.out).mono ?_; rintro e w' ⟨rfl, q, rfl⟩)
    go_ret2
    exact ⟨rfl, Ext.drewN _ _⟩
  · have HL := Lib.hid hl
    have ok := Lib.hid (list_ok hl)
    have hn := ok.out.hi
    cases hfx : isFin .f32 x
    · rw [rankR_2 hfx] at hv
      cases hv
      have FX := Lib.hid hfx
      clear h hb hl hx hfx hrd
      go_enter Try.func42, Try.ntmps42
      go_wp2_with fail
      refine (c_spec_l05List _ _ _ zs _ HL.out HM.out H.out).mono ?_; rintro e w1 ⟨rfl, q1, rfl⟩
      go_wp2_with fail
      refine (c_spec_l01Finite_b x _ FX.out).mono ?_; rintro e w2 ⟨rfl, q2, rfl⟩
      go_wp2
      go_ret2
      exact ⟨rfl, by first | exact Ext.drewN _ _ | (rw [World.drewN_drewN]; exact Ext.drewN _ _)⟩
    · rw [rankR_y hl hfx] at hv
      cases hv
      have FX := Lib.hid hfx
      have HR := Lib.hid hrd
      clear h hb hl hx hfx hrd
      go_enter Try.func42, Try.ntmps42
      go_wp2_with fail
      refine (c_spec_l05List _ _ _ zs _ HL.out HM.out H.out).mono ?_; rintro e w1 ⟨rfl, q1, rfl⟩
      go_wp2_with fail
      refine (c_spec_l01Finite_b x _ FX.out).mono ?_; rintro e w2 ⟨rfl, q2, rfl⟩
      try rw [World.drewN_drewN]
      obtain ⟨u, hu⟩ : ∃ u, w.drewN (q1 + q2) = u := ⟨_, rfl⟩
      have HU := Lib.hid (show Ext w u by rw [← hu]; exact Ext.drewN _ _)
      rw [hu]
      clear hu
      go_wp2
      go_loopw [6, 18] (fun s i wr => ∃ k : Nat, k ≤ n ∧ i = .int .i64 k ∧ s = .int .i64 ((cntLe (zs.take k) x : Nat) : Int) ∧ wr = u) (fun _ i _ => n - (intOf i).toNat)
      case atStart => exact ⟨0, Nat.zero_le _, rfl, rfl, rfl⟩
      case round =>
        obtain ⟨k, hk, rfl, rfl, rfl⟩ := hrel
        by_cases hlt : k < n
        · rcases HR.out with he | ⟨g, off, rfl, hc⟩
          · omega
          have hcell : wr.cell? ⟨g, off + k, none⟩ = some (.float .f32 (zs[k]?.getD 0)) := HU.out.some (hc k hlt)
          obtain ⟨y, hy⟩ : ∃ y, zs[k]?.getD 0 = y := ⟨_, rfl⟩
          have FY : isFin .f32 y = true := by rw [← hy]; exact finB_at ok.out.fin (by rw [HZ.out]; exact hlt)
          have kl := key_lt FY FX.out
          have ke := key_eq FY FX.out
          obtain ⟨s, hs⟩ : ∃ s, cntLe (zs.take k) x = s := ⟨_, rfl⟩
          have hs2 : s ≤ 256 := by rw [← hs]; have := cntLe_le (zs.take k) x; rw [List.length_take] at this; omega
          have hsn := cntLe_snoc zs x (k := k) (by rw [HZ.out]; exact hlt)
          rw [show getN zs k = y from hy, hs] at hsn
          rw [hy] at hcell
          rw [hs]
          by_cases hle : fkey y ≤ fkey x
          · rw [if_pos hle] at hsn
            have HSN := Lib.hid hsn
            by_cases hlt2 : fkey y < fkey x
            · rw [decide_eq_true hlt2] at kl
              clear hc hy hsn hs FY ke hle hlt2
              go_wp2
              go_roundw
              case rel => exact ⟨k + 1, by omega, by go_num, by rw [HSN.out]; go_num, by first | rfl | trivial⟩
              case measure => simp [intOf]; omega
            · rw [decide_eq_false hlt2] at kl
              rw [decide_eq_true (show fkey y = fkey x by omega)] at ke
              clear hc hy hsn hs FY hle hlt2
              go_wp2
              go_roundw
              case rel => exact ⟨k + 1, by omega, by go_num, by rw [HSN.out]; go_num, by first | rfl | trivial⟩
              case measure => simp [intOf]; omega
          · rw [if_neg hle] at hsn
            have HSN := Lib.hid hsn
            rw [decide_eq_false (show ¬ fkey y < fkey x by omega)] at kl
            rw [decide_eq_false (show ¬ fkey y = fkey x by omega)] at ke
            clear hc hy hsn hs FY hle
            go_wp2
            go_roundw
            case rel => exact ⟨k + 1, by omega, by go_num, by rw [HSN.out]; rfl, by first | rfl | trivial⟩
            case measure => simp [intOf]; omega
        · obtain rfl : k = n := by omega
          have HT := Lib.hid (show cntLe (zs.take k) x = cntLe zs x by rw [List.take_of_length_le (by rw [HZ.out]; exact Nat.le_refl _)])
          go_wp2
          go_ret2
          exact ⟨ret_ib2 (by rw [HT.out]), HU.out⟩
end Go.Proofs.Ytmgkbgdbahijnab
