/- Lists of finite floats in ascending order: the program's side (inOrder, SortedOf). -/
import Derived.Test.YtibldgcfplpdkaaAsc
import Derived.Test.YtibldgcfplpdkaaSg7
import Derived.Test.YtibldgcfplpdkaaChc
namespace Go.Proofs.Ytibldgcfplpdkaa
open Go.ChangeShapes Go.WideShapes Go.ChangeAt Go.RowKit Go.Proofs.Ytibldgcfplpdkaa.Smg Go.Proofs.Ytibldgcfplpdkaa.Flo
set_option linter.unusedVariables false
attribute [local go_sem] run_store_float
/-- the order of two finite floats -/
def leF (x y : Nat) : Bool := decide (fkey x ≤ fkey y)
theorem leF_tr : ∀ x y z, leF x y = true → leF y z = true → leF x z = true := fun x y z h1 h2 => by
  unfold leF at *
  have h3 := of_decide_eq_true h1
  have h4 := of_decide_eq_true h2
  exact decide_eq_true (by omega)
theorem leF_tot : ∀ x y, leF x y = true ∨ leF y x = true := fun x y => by
  unfold leF
  by_cases h : fkey x ≤ fkey y
  · exact .inl (decide_eq_true h)
  · exact .inr (decide_eq_true (by omega))
/-- a list in ascending order -/
def sortF (zs : List Nat) : List Nat := zs.mergeSort leF
theorem sortF_length (zs : List Nat) : (sortF zs).length = zs.length := by unfold sortF; rw [List.length_mergeSort]
theorem sortF_mem {zs : List Nat} {x : Nat} (h : x ∈ sortF zs) : x ∈ zs := (List.mergeSort_perm zs leF).mem_iff.1 h
def sortR (zs : List Nat) : List Nat × Bool := if listB zs then (sortF zs, true) else ([], false)
theorem sortR_yes {zs : List Nat} (h : listB zs = true) : sortR zs = (sortF zs, true) := by unfold sortR; rw [h]; rfl
theorem sortR_no {zs : List Nat} (h : listB zs = false) : sortR zs = ([], false) := by unfold sortR; rw [h]; rfl
theorem sortR_le {zs rz : List Nat} {rb : Bool} (h : sortR zs = (rz, rb)) : rz.length ≤ 1048576 := by
  cases hb : listB zs
  · rw [sortR_no hb] at h; cases h; exact Nat.zero_le _
  · rw [sortR_yes hb] at h; cases h; rw [sortF_length]; have := (list_ok hb).hi; omega
theorem valsG_flo (zs : List Nat) : valsG (Value.float .f32) (tagF zs 0) zs.length = flos zs := by
  unfold valsG flos tagF
  apply List.ext_getElem
  · simp
  · intro i h1 h2
    have hi : i < zs.length := by simpa using h1
    simp [hi]
theorem own_rowF {w : World} {t : TypeId} {b lo n c : Nat} {g : Nat → Nat × Nat} {f : Nat → Value} (hc : n ≤ c) (hb : lo ≤ b) (h : w.rowIs b t c (rowG (Value.float .f32) n g f)) : Own t w lo w.heap.size (some ⟨b, 0, none⟩) n c (flos ((Smg.rowL g n).map Prod.fst)) := by
  refine ⟨by rw [flos_length, List.length_map, Smg.rowL_length], hc, .inr ⟨b, _, rfl, hb, h.lt, h, fun i hi => ?_⟩⟩
  rw [rowG_at hi]
  simp [flos, Smg.rowL, hi]
theorem sortF_of {zs : List Nat} {n : Nat} {g : Nat → Nat × Nat} (hz : zs.length = n) (h : Shuf 0 n (tagF zs 0) g) (h' : SortedOn (TL leF) g 0 n) : (Smg.rowL g n).map Prod.fst = sortF zs := by
  subst hz
  exact sort_end leF_tr leF_tot zs 0 h h'
theorem c_impl_itself (x : Nat) (w : World) : Calls Try.prog 108 #[.float .f32 x] w fun e w' => e = .returned (.float .f32 x) ∧ w' = w := by
  go_enter Try.func108, Try.ntmps108
  go_wp2
  go_ret
  exact ⟨rfl, rfl⟩
theorem cmpG_F (x y : Nat) : cmpG leF x y = if fkey x < fkey y then -1 else if fkey y < fkey x then 1 else 0 := by
  unfold cmpG leF
  by_cases h1 : fkey x < fkey y
  · rw [if_pos (decide_eq_false (by omega)), if_pos h1]
  · rw [if_neg (by simp; omega), if_neg h1]
    by_cases h2 : fkey y < fkey x
    · rw [if_pos (decide_eq_false (by omega)), if_pos h2]
    · rw [if_neg (by simp; omega), if_neg h2]
theorem c_cmpCompareF (x y : Nat) (v : Int) (w : World) (hx : isFin .f32 x = true) (hy : isFin .f32 y = true) (h : cmpG leF x y = v) : Calls Try.prog 213 #[.float .f32 x, .float .f32 y] w fun e w' => e = .returned (.int .i64 v) ∧ w' = w := by
  have kl := key_lt hx hy
  have kg := key_gt hx hy
  have HX := Lib.hid hx
  have HY := Lib.hid hy
  rw [cmpG_F] at h
  clear hx hy
  by_cases h1 : fkey x < fkey y
  · rw [if_pos h1] at h
    rw [decide_eq_true h1] at kl
    have H := Lib.hid h
    clear h kg h1
    go_enter Try.func213, Try.ntmps213
    go_wp2_with fail
    refine (c_isNaNF x _ HX.out).mono ?_; rintro e w' ⟨rfl, rfl⟩
    go_wp2_with fail
    refine (c_isNaNF y _ HY.out).mono ?_; rintro e w' ⟨rfl, rfl⟩
    go_wp2
    go_ret
    exact ⟨by rw [← H.out]; rfl, rfl⟩
  · rw [if_neg h1] at h
    rw [decide_eq_false h1] at kl
    by_cases h2 : fkey y < fkey x
    · rw [if_pos h2] at h
      rw [decide_eq_true h2] at kg
      have H := Lib.hid h
      clear h h1 h2
      go_enter Try.func213, Try.ntmps213
      go_wp2_with fail
      refine (c_isNaNF x _ HX.out).mono ?_; rintro e w' ⟨rfl, rfl⟩
      go_wp2_with fail
      refine (c_isNaNF y _ HY.out).mono ?_; rintro e w' ⟨rfl, rfl⟩
      go_wp2
      go_ret
      exact ⟨by rw [← H.out]; rfl, rfl⟩
    · rw [if_neg h2] at h
      rw [decide_eq_false h2] at kg
      have H := Lib.hid h
      clear h h1 h2
      go_enter Try.func213, Try.ntmps213
      go_wp2_with fail
      refine (c_isNaNF x _ HX.out).mono ?_; rintro e w' ⟨rfl, rfl⟩
      go_wp2_with fail
      refine (c_isNaNF y _ HY.out).mono ?_; rintro e w' ⟨rfl, rfl⟩
      go_wp2
      go_ret
      exact ⟨by rw [← H.out]; rfl, rfl⟩
set_option maxHeartbeats 1000000 in
theorem c_inOrdCmp (qb : Nat) (x y : Nat) (v : Int) (w : World) (hx : isFin .f32 x = true) (hy : isFin .f32 y = true) (hv : cmpG leF x y = v) (hq : w.cell? ⟨qb, 0, none⟩ = some (.func (.func 108) #[] #[])) :
    Calls Try.prog 212 #[.float .f32 x, .float .f32 y, .pointer (some ⟨qb, 0, none⟩)] w fun e w' => e = .returned (.int .i64 v) ∧ ∃ q, w' = w.drewN q := by
  have HX := Lib.hid hx
  have HY := Lib.hid hy
  have HV := Lib.hid hv
  clear hx hy hv
  go_enter Try.func212, Try.ntmps212
  go_wp2
  go_quiet (first | (go_at_call 108; exact Calls.quiet_of_same (c_impl_itself _ _)) | (go_at_call 213; exact Calls.quiet_of_same (c_cmpCompareF x y v _ HX.out HY.out HV.out)))
  go_wp2
  go_ret
  exact ⟨rfl, _, rfl⟩
set_option maxHeartbeats 1000000 in
theorem c_CloneG (b off n c : Nat) (zs : List Nat) (w : World) (hz : zs.length = n) (hn : n ≤ 1048576) (hc : ∀ i, i < n → w.cell? ⟨b, off + i, none⟩ = (flos zs)[i]?) :
    Calls Try.prog 193 #[.slice (some ⟨b, off, none⟩) n c] w fun e w' => ∃ v', e = .returned v' ∧ w'.ownsRow w.heap.size 37 1 v' n (flos zs) ∧ v' ≠ .slice none 0 0 ∧ Ext w w' := by
  obtain ⟨i0, hi, hz0, hz1, hz2⟩ := info_parts info_f32
  have q22 : ∀ (w : World) (a : Option Addr) (n c n' c' : Nat), (binOp .eql 33 (.slice a n c) (.slice none n' c')).run Try.prog w = .ok (.bool a.isNone) w := fun w a n c n' c' => Lib.run_eql_slice_nil w _ _ a n c n' c' Try.underlying33
  have HC := Lib.hid hc
  have HZ := Lib.hid hz
  clear hc hz
  go_enter Try.func193, Try.ntmps193
  go_wp2_with (at_builtin; refine wpList_append_own _ rfl _ _ 33 rfl w.heap.size 37 i0 (.float .f32 0) 1 4 Try.underlying33 hi hz0 hz1 hz2 rfl (by decide) _ _ _ rfl (World.ownsRow_made w #[] 0 (Nat.le_refl _) (Nat.zero_le _) rfl) ⟨b, off, none⟩ n c (flos zs) rfl ?qc1 ?qc2 ?qc3 ?qc4 ?qc5 ?qc6 ?_)
  case qc1 => rw [flos_length, HZ.out]; simp
  case qc2 =>
    intro j u hj
    have hjn : j < n := by
      have := (List.getElem?_eq_some_iff.1 hj).1
      rw [flos_length, HZ.out] at this
      exact this
    rw [Addr.add_lit]
    refine Lib.cell?_alloc_some _ ?_
    rw [HC.out j hjn]
    exact hj
  case qc3 => intro u hu; obtain ⟨x, _, rfl⟩ := List.mem_map.1 hu; rfl
  case qc4 => unfold maxLen; omega
  case qc5 => omega
  case qc6 => simp
  intro v' w1 hown hgrow hnil
  go_wp2
  go_ret
  refine ⟨v', rfl, by simpa using hown, ?_, ?_⟩
  · exact hnil
  · exact ((Below.refl _ w).alloc (Nat.le_refl _) _).grown hgrow (by simp) (by intro k hk; simp [Value.ownBlock] at hk; omega)
theorem c_CloneG_r (a : Option Addr) (n c : Nat) (zs : List Nat) (w : World) (h0 : 0 < n) (hn : n ≤ 1048576) (h : Reads w a n (flos zs)) :
    Calls Try.prog 193 #[.slice a n c] w fun e w' => ∃ g c' f, e = .returned (.slice (some ⟨g, 0, none⟩) n c') ∧ w.heap.size ≤ g ∧ n ≤ c' ∧ c' ≤ maxLen ∧ w'.rowIs g 37 c' (rowG (Value.float .f32) n (tagF zs 0) f) ∧ Ext w w' := by
  obtain ⟨hl, h1⟩ := h
  rcases h1 with h1 | ⟨b, off, rfl, hc⟩
  · omega
  have hz : zs.length = n := by rw [← flos_length]; exact hl
  refine (c_CloneG b off n c zs w hz hn hc).mono ?_
  rintro e w' ⟨v', rfl, ho, hne, hx⟩
  rw [← valsG_flo zs, hz] at ho
  obtain ⟨g, c', f, rfl, h2, h3, h4, h5⟩ := rowG_owns ho h0
  exact ⟨g, c', f, rfl, h2, h3, h4, h5, hx⟩
set_option maxHeartbeats 2000000 in
theorem c_impl_inOrderF (a : Option Addr) (n cap : Nat) (zs : List Nat) (w : World) (h0 : 0 < n) (hn : n ≤ 1048576) (hf : finB zs = true) (h : Reads w a n (flos zs)) :
    Calls Try.prog 107 #[.slice a n cap, .func (.func 108) #[] #[]] w (RetS 37 n (flos (sortF zs)) w) := by
  have hz := h.flo.1
  have H := Lib.hid h
  have HF := Lib.hid hf
  have HZ := Lib.hid hz
  have HB := Lib.hid (Box.alloc w #[.func (.func 108) #[] #[]] 126)
  clear h hf hz
  go_enter Try.func107, Try.ntmps107
  go_wp2_with fail
  refine (c_CloneG_r _ n _ zs _ h0 hn (H.out.on (by (repeat (first | assumption | exact Ext.refl _ | (with_reducible refine Ext.stepS ?_ (by first | exact Nat.le_refl _ | (simp; done) | (simp; omega)) _) | (with_reducible refine Ext.stepN ?_ _) | (with_reducible refine Ext.stepD ?_) | (with_reducible refine Ext.stepA ?_ _)))))).mono ?_; rintro e u1 ⟨g, c', f, rfl, hg, hc', hcm, r', x'⟩
  have R1 := Lib.hid r'
  have B1 := Lib.hid (HB.out.on x')
  have X1 := Lib.hid (show Ext w u1 from Ext.trans (by (repeat (first | assumption | exact Ext.refl _ | (with_reducible refine Ext.stepS ?_ (by first | exact Nat.le_refl _ | (simp; done) | (simp; omega)) _) | (with_reducible refine Ext.stepN ?_ _) | (with_reducible refine Ext.stepD ?_) | (with_reducible refine Ext.stepA ?_ _)))) x')
  have G1 := Lib.hid (show w.heap.size + 1 ≤ g by simpa using hg)
  have HCM := Lib.hid (show CmpOk Try.prog leF (fun x => isFin .f32 x = true) 212 (fun x y => #[.float .f32 x, .float .f32 y, .pointer (some ⟨w.heap.size, 0, none⟩)]) g u1 from by
    intro u tu x y v hx hy hv
    exact c_inOrdCmp w.heap.size x y v u hx hy hv ((B1.out.beside tu (by have := G1.out; omega)).cell 0))
  clear r' x' hg
  go_wp2_with fail
  refine (c_SortStableG leF leF_tr leF_tot (fun x => isFin .f32 x = true) w.heap.size g n c' (tagF zs 0) f _ hn hc' (fun k h1 h2 => finB_at HF.out (by rw [HZ.out]; exact h2)) (fun k h2 => rfl) HCM.out R1.out).mono ?_
  rintro e w' ⟨g', rfl, r', ⟨s', o'⟩, t'⟩
  have R2 := Lib.hid r'
  have HE := Lib.hid (sortF_of HZ.out s' o')
  have T2 := Lib.hid t'
  clear r' s' o' t'
  go_wp2
  go_ret
  exact ⟨_, _, rfl, by rw [← HE.out]; exact own_rowF hc' (by have := G1.out; omega) R2.out, Touch.ext X1.out T2.out (by have := G1.out; omega)⟩
theorem c_impl_SortedOf (a : Option Addr) (n cap : Nat) (zs : List Nat) (w : World) {rz : List Nat} {rb : Bool} (hv : sortR zs = (rz, rb)) (hm : n ≤ 1048576) (h : Reads w a n (flos zs)) (hb : ∀ z ∈ zs, z < 4294967296) :
    Calls Try.prog 27 #[.slice a n cap] w (RetSB 37 rz.length (flos rz) rb w) := by
  have hz := h.flo.1
  have H := Lib.hid h
  have HB := Lib.hid hb
  cases hl : listB zs
  · rw [sortR_no hl] at hv
    cases hv
    have HL := Lib.hid hl
    clear h hb hl
    go_enter Try.func27, Try.ntmps27
    go_wp2_with (go_at_call 29; refine (c_impl_IsList _ _ _ zs _ HL.out hm H.out HB.out).mono ?_; rintro e w' ⟨rfl, x'⟩; have X' := Lib.hid x'; clear x')
    go_ret2
    exact ⟨none, 0, rfl, Own.nil _ _ _ _, X'.out⟩
  · rw [sortR_yes hl] at hv
    cases hv
    have HL := Lib.hid hl
    have ok := list_ok hl
    have hl1 := ok.lo
    rw [sortF_length, hz]
    clear h hb hl
    go_enter Try.func27, Try.ntmps27
    go_wp2_with fail
    refine (c_impl_IsList _ _ _ zs _ HL.out hm H.out HB.out).mono ?_; rintro e u1 ⟨rfl, x'⟩
    have X1 := Lib.hid x'
    clear x'
    go_wp2_with fail
    refine (c_impl_inOrderF _ n _ zs _ (by omega) hm ok.fin (H.out.on X1.out)).mono ?_; rintro e w' ⟨a', c', rfl, o', x'⟩
    have O' := Lib.hid o'
    have X' := Lib.hid (X1.out.trans x')
    have S1 := Lib.hid X1.out.size
    clear o' x' ok
    go_wp2
    go_ret2
    exact ⟨_, _, rfl, O'.out.wide S1.out (Nat.le_refl _), X'.out⟩
end Go.Proofs.Ytibldgcfplpdkaa
