/- OrderByHash: the order of places by their hashes; the program's side. -/
import Derived.Test.YtjnhflpoddpfnabRow
import Derived.Test.YtjnhflpoddpfnabMed
import Derived.Test.YtjnhflpoddpfnabSw7
import Derived.Test.YtjnhflpoddpfnabChc
namespace Go.Proofs.Ytjnhflpoddpfnab
open Go.ChangeShapes Go.WideShapes Go.ChangeAt Go.RowKit Go.Proofs.Ytjnhflpoddpfnab.Smg
set_option linter.unusedVariables false
/-- a place's number, and the order of two places -/
def atI (hs : List Int) (i : Int) : Int := hs[i.toNat]?.getD 0
def leI (hs : List Int) (x y : Int) : Bool := decide (atI hs x ≤ atI hs y)
theorem leI_tr (hs : List Int) : ∀ x y z, leI hs x y = true → leI hs y z = true → leI hs x z = true := fun x y z h1 h2 => by
  unfold leI at *
  have h3 := of_decide_eq_true h1
  have h4 := of_decide_eq_true h2
  exact decide_eq_true (by omega)
theorem leI_tot (hs : List Int) : ∀ x y, leI hs x y = true ∨ leI hs y x = true := fun x y => by
  unfold leI
  by_cases h : atI hs x ≤ atI hs y
  · exact .inl (decide_eq_true h)
  · exact .inr (decide_eq_true (by omega))
theorem leI_cmp (hs : List Int) (x y : Int) : cmpG (leI hs) x y = cmpZ (atI hs x) (atI hs y) := by
  unfold cmpG cmpZ leI
  by_cases h1 : atI hs x < atI hs y
  · rw [if_pos (decide_eq_false (by omega)), if_pos h1]
  · rw [if_neg (by simp; omega), if_neg h1]
    by_cases h2 : atI hs y < atI hs x
    · rw [if_pos (decide_eq_false (by omega)), if_pos h2]
    · rw [if_neg (by simp; omega), if_neg h2]
/-- places in their order -/
def ordZ (hs : List Int) : List Int := (marks 0 hs.length).mergeSort (leI hs)
theorem ordZ_length (hs : List Int) : (ordZ hs).length = hs.length := by unfold ordZ; rw [List.length_mergeSort, marks_length]
def ordR (zs : List Int) (salt : Int) : List Int := if keysB zs && keyB salt then ordZ (rowZ zs salt) else []
theorem ordR_yes {zs : List Int} {salt : Int} (h : (keysB zs && keyB salt) = true) : ordR zs salt = ordZ (rowZ zs salt) := by unfold ordR; rw [h]; rfl
theorem ordR_no {zs : List Int} {salt : Int} (h : (keysB zs && keyB salt) = false) : ordR zs salt = [] := by unfold ordR; rw [h]; rfl
theorem ordR_le (zs : List Int) (salt : Int) : (ordR zs salt).length ≤ 256 := by
  cases h : keysB zs && keyB salt
  · rw [ordR_no h]; exact Nat.zero_le _
  · rw [ordR_yes h, ordZ_length, rowZ_length]
    simp only [Bool.and_eq_true] at h
    exact keysB_len h.1
/-- a row of elements as a slice -/
theorem own_rowG {w : World} {t : TypeId} {b lo n c : Nat} {g : Nat → Int × Nat} {f : Nat → Value} (hc : n ≤ c) (hb : lo ≤ b) (h : w.rowIs b t c (rowG (Value.int .i64) n g f)) : Own t w lo w.heap.size (some ⟨b, 0, none⟩) n c (ints ((Smg.rowL g n).map Prod.fst)) := by
  refine ⟨by rw [ints_length, List.length_map, Smg.rowL_length], hc, .inr ⟨b, _, rfl, hb, h.lt, h, fun i hi => ?_⟩⟩
  rw [rowG_at hi]
  simp [ints, Smg.rowL, hi]
set_option maxHeartbeats 1000000 in
theorem c_ordCmp (hs : List Int) (qb I K rn rcap : Nat) (ra : Option Addr) (v : Int) (w : World) (hI : I < hs.length) (hK : K < hs.length) (hn : rn ≤ 1048576) (hv : cmpZ (hs[I]?.getD 0) (hs[K]?.getD 0) = v) (hq : w.cell? ⟨qb, 0, none⟩ = some (.slice ra rn rcap)) (h : Reads w ra rn (ints hs)) :
    Calls Try.prog 104 #[.int .i64 I, .int .i64 K, .pointer (some ⟨qb, 0, none⟩)] w fun e w' => e = .returned (.int .i64 v) ∧ ∃ q, w' = w.drewN q := by
  obtain ⟨rfl, hr⟩ := h.int
  rcases hr with h0 | ⟨b, off, rfl, hc⟩
  · omega
  have c1 := hc I hI
  have c2 := hc K hK
  obtain ⟨x, hx⟩ : ∃ x, hs[I]?.getD 0 = x := ⟨_, rfl⟩
  obtain ⟨y, hy⟩ : ∃ y, hs[K]?.getD 0 = y := ⟨_, rfl⟩
  rw [hx] at c1 hv
  rw [hy] at c2 hv
  have HV := Lib.hid hv
  have e1 : (I : Int) < (hs.length : Int) := by omega
  have e2 : (K : Int) < (hs.length : Int) := by omega
  clear hc hx hy hv h
  go_enter Try.func104, Try.ntmps104
  go_wp2
  go_quiet ((go_at_call 91; exact Calls.quiet_of_same (c_cmpCompare x y v _ HV.out)))
  go_wp2
  go_ret
  exact ⟨rfl, _, rfl⟩
set_option maxRecDepth 100000 in
set_option maxHeartbeats 4000000 in
theorem c_impl_OrderByHash (a : Option Addr) (n cap : Nat) (zs : List Int) (salt : Int) (w : World) (hm : n ≤ maxLen) (h : Reads w a n (ints zs)) :
    Calls Try.prog 74 #[.slice a n cap, .int .i64 salt] w (RetSB 2 (ordR zs salt).length (ints (ordR zs salt)) (keysB zs && keyB salt) w) := by
  have H := Lib.hid h
  clear h
  cases hk : keysB zs && keyB salt
  · have HK := Lib.hid hk
    rw [ordR_no hk]
    have HV := Lib.hid (rowV_no hk)
    clear hk
    go_enter Try.func74, Try.ntmps74
    go_wp2_with fail
    refine (c_impl_HashRow a n cap zs salt _ hm (by first | exact H.out | exact H.out.on (by (repeat (first | assumption | exact Ext.refl _ | (with_reducible refine Ext.stepS ?_ (by first | exact Nat.le_refl _ | (simp; done) | (simp; omega)) _) | (with_reducible refine Ext.stepN ?_ _) | (with_reducible refine Ext.stepD ?_) | (with_reducible refine Ext.stepA ?_ _)))))).mono ?_; rintro e u1 ⟨a', c', rfl, o', x'⟩
    rw [HK.out]
    have X := Lib.hid x'
    clear x' o'
    go_wp2
    go_ret2
    first | exact ⟨none, 0, rfl, Own.nil _ _ _ _, by have := X.out; (repeat (first | assumption | exact Ext.refl _ | (with_reducible refine Ext.stepS ?_ (by first | exact Nat.le_refl _ | (simp; done) | (simp; omega)) _) | (with_reducible refine Ext.stepN ?_ _) | (with_reducible refine Ext.stepD ?_) | (with_reducible refine Ext.stepA ?_ _)))⟩
  · have HK := Lib.hid hk
    rw [ordR_yes hk, ordZ_length, rowZ_length]
    have hl : (rowV zs salt) = rowZ zs salt := by unfold rowV; rw [hk]; rfl
    have HL := Lib.hid hl
    have hzl : zs.length ≤ 256 := by simp only [Bool.and_eq_true] at hk; exact keysB_len hk.1
    have hmk := run_make_row' (P := Try.prog) 22 2 (.int .i64 0) 8 Try.underlying22 info_i64 rfl .i64 .i64 zs.length (by omega) (by omega)
    clear hk hl
    go_enter Try.func74, Try.ntmps74
    go_wp2_with fail
    refine (c_impl_HashRow a n cap zs salt _ hm (by first | exact H.out | exact H.out.on (by (repeat (first | assumption | exact Ext.refl _ | (with_reducible refine Ext.stepS ?_ (by first | exact Nat.le_refl _ | (simp; done) | (simp; omega)) _) | (with_reducible refine Ext.stepN ?_ _) | (with_reducible refine Ext.stepD ?_) | (with_reducible refine Ext.stepA ?_ _)))))).mono ?_; rintro e u1 ⟨a', c', rfl, o', x'⟩
    rw [HK.out]
    rw [HL.out, rowZ_length] at o'
    rw [HL.out, rowZ_length]
    have BX := Lib.hid ((Box.alloc u1 #[.slice a' zs.length c'] 22).past (.cells (madeCells #[.int .i64 0] zs.length) 2))
    have O2 := Lib.hid (o'.on (((Ext.refl u1).stepA (.cells #[.slice a' zs.length c'] 22)).stepA (.cells (madeCells #[.int .i64 0] zs.length) 2)))
    have X2 := Lib.hid ((x'.stepA (.cells #[.slice a' zs.length c'] 22)).stepA (.cells (madeCells #[.int .i64 0] zs.length) 2))
    have RW := Lib.hid (World.rowIs_made (u1.alloc (.cells #[.slice a' zs.length c'] 22)) (.int .i64 0) zs.length 2)
    have SZ := Lib.hid x'.size
    clear o' x'
    go_wp2
    obtain ⟨u2, hu2⟩ : ∃ u2, (u1.alloc (.cells #[.slice a' zs.length c'] 22)).alloc (.cells (madeCells #[.int .i64 0] zs.length) 2) = u2 := ⟨_, rfl⟩
    rw [hu2] at BX O2 X2 RW
    try rw [hu2]
    obtain ⟨g, hg⟩ : ∃ g, u1.heap.size + 1 = g := ⟨_, rfl⟩
    have hgs : (u1.alloc (.cells #[.slice a' zs.length c'] 22)).heap.size = g := by rw [← hg]; simp
    rw [hgs] at RW
    rw [hg]
    have HG := Lib.hid hg
    clear hu2 hgs hg hmk
    go_loopw [23] (fun i wr => ∃ k : Nat, k ≤ zs.length ∧ i = .int .i64 k ∧ wr.rowIs g 2 zs.length (markF (fun _ => .int .i64 0) 0 k) ∧ Touch g (g + 1) u2 wr) (fun i _ => zs.length - (intOf i).toNat)
    case atStart => exact ⟨0, Nat.zero_le _, rfl, RW.out.congr fun i _ => rfl, Touch.refl _ _ _⟩
    case round =>
      obtain ⟨k, hk, rfl, hrow, ht⟩ := hrel
      by_cases hlt : k < zs.length
      · have hcur := hrow.cell hlt
        have hfro := hrow.frozen k
        have hkz : ((0 + k : Nat) : Int) = (k : Int) := by omega
        have HS := Lib.hid (show (wr.setCell ⟨g, k, none⟩ (.int .i64 k)).rowIs g 2 zs.length (markF (fun _ => .int .i64 0) 0 (k + 1)) by have := markF_step (fun _ => .int .i64 0) 0 k hrow; rwa [hkz] at this)
        have HT := Lib.hid (touch1 ht k (.int .i64 k))
        clear hrow ht
        go_wp2
        go_roundw
        case rel => exact ⟨k + 1, by omega, by go_num, HS.out, HT.out⟩
        case measure => simp [intOf]; omega
      · obtain rfl : k = zs.length := by omega
        have HR := Lib.hid (show wr.rowIs g 2 zs.length (rowG (Value.int .i64) zs.length (tagF (marks 0 zs.length) 0) (fun _ => .int .i64 0)) from hrow.congr fun i hi => by
          unfold markF; rw [if_pos hi, rowG_at hi]
          show _ = Value.int .i64 ((marks 0 zs.length)[i]?.getD 0)
          rw [marks_get 0 zs.length i hi])
        have HT := Lib.hid ht
        have HCM := Lib.hid (show CmpOk Try.prog (leI (rowZ zs salt)) (fun x => ∃ I : Nat, x = I ∧ I < zs.length) 104 (fun x y => #[.int .i64 x, .int .i64 y, .pointer (some ⟨u1.heap.size, 0, none⟩)]) g wr from by
          rintro u tu x y v ⟨I, rfl, hI⟩ ⟨K, rfl, hK⟩ hv
          have q1 := HG.out
          rw [leI_cmp] at hv
          exact c_ordCmp (rowZ zs salt) u1.heap.size I K zs.length c' a' v u (by rw [rowZ_length]; exact hI) (by rw [rowZ_length]; exact hK) (by omega) (by simpa [atI] using hv)
            (((BX.out.beside HT.out (by omega)).beside tu (by omega)).cell 0) ((((O2.out.beside HT.out (by omega)).beside tu (by omega))).reads))
        clear hrow ht
        go_wp2_with fail
        refine (c_SortStableI (leI (rowZ zs salt)) (leI_tr _) (leI_tot _) (fun x => ∃ I : Nat, x = I ∧ I < zs.length) u1.heap.size g zs.length zs.length (tagF (marks 0 zs.length) 0) (fun _ => .int .i64 0) _ (by omega) (Nat.le_refl _) (fun k h1 h2 => ⟨k, by show (marks 0 zs.length)[k]?.getD 0 = _; rw [marks_get 0 zs.length k h2]; omega, h2⟩) (fun k h2 => rfl) HCM.out HR.out).mono ?_
        rintro e w' ⟨g', rfl, r', ⟨s', o'⟩, t'⟩
        have he := sort_end (leI_tr (rowZ zs salt)) (leI_tot (rowZ zs salt)) (marks 0 zs.length) 0 (g := g') (by rw [marks_length]; exact s') (by rw [marks_length]; exact o')
        rw [marks_length] at he
        have HE := Lib.hid (show (Smg.rowL g' zs.length).map Prod.fst = ordZ (rowZ zs salt) by rw [he]; unfold ordZ; rw [rowZ_length])
        have R2 := Lib.hid r'
        have T2 := Lib.hid (HT.out.trans t')
        clear r' s' o' t' he
        go_wp2
        go_ret2
        exact ⟨_, _, rfl, by rw [← HE.out]; exact own_rowG (Nat.le_refl _) (by have := HG.out; have := SZ.out; omega) R2.out, Touch.ext X2.out T2.out (by have := HG.out; have := SZ.out; omega)⟩
end Go.Proofs.Ytjnhflpoddpfnab
