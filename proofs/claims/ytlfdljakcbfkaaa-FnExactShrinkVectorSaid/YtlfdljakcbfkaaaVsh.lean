/- ShrinkVector: what both sides answer. -/
import Derived.Test.YtlfdljakcbfkaaaVsk
import Derived.Test.YtlfdljakcbfkaaaExq
import Derived.Test.YtlfdljakcbfkaaaKin
import Derived.Deep.RegionHeld3
import Derived.Deep.DeepCutAuto
import Derived.Deep.LoopGhost
namespace Go.Proofs.Ytlfdljakcbfkaaa
open Go.ChangeShapes Go.WideShapes Go.ChangeAt Go.RowKit Go.Proofs.Ytlfdljakcbfkaaa.Flo
set_option linter.unusedVariables false
attribute [local go_sem] unary_neg_float run_store_float run_store_complex
/-- by what each number of so many is multiplied -/
def byOf (m : Nat) : Option Nat := fop .quo .f32 (fv .f32 1065353216) (slim (fsq (wide (fv .f32 (floatOfInt .f32 ((m : Nat) : Int))))))
def byTest (m : Nat) : Bool := match byOf m with
  | some y => match FloatKind.f32.decode y with
    | .number s n j => !s && (n == 0 || (decide (j ≤ 0) && decide (n ≤ 2 ^ (0 - j).toNat)))
    | _ => false
  | none => false
theorem by_all : ∀ m, m < 33 → 1 ≤ m → byTest m = true := by decide +kernel
theorem by_ok {m : Nat} (h1 : 1 ≤ m) (h2 : m ≤ 32) : ∃ y n j, byOf m = some y ∧ FloatKind.f32.decode y = .number false n j ∧ bd n j 0 := by
  have h := by_all m (by omega) h1
  unfold byTest at h
  split at h
  · rename_i y hy
    split at h
    · rename_i s n j hd
      simp only [Bool.and_eq_true, Bool.or_eq_true, Bool.not_eq_true', beq_iff_eq, decide_eq_true_eq] at h
      obtain ⟨rfl, h⟩ := h
      exact ⟨y, n, j, hy, hd, h⟩
    · cases h
  · cases h
def shV (m b : Nat) : Option Nat := fop .mul .f32 (fv .f32 b) (byOf m)
def shL (sz : List Nat) (m : Nat) : List Nat := sz.map fun b => (shV m b).getD 0
def shR (zs : List Nat) (ss : List Int) : List Nat × Bool := (shL (skR zs ss).1 ss.length, (skR zs ss).2)
theorem shL_length (sz : List Nat) (m : Nat) : (shL sz m).length = sz.length := by simp [shL]
theorem shL_get (sz : List Nat) (m k : Nat) (h : k < sz.length) : (shL sz m)[k]?.getD 0 = (shV m (sz[k]?.getD 0)).getD 0 := by simp [shL, h]
theorem shR_le {zs : List Nat} {ss : List Int} {rz : List Nat} {rb : Bool} (h : shR zs ss = (rz, rb)) : rz.length ≤ 1048576 := by
  unfold shR at h; cases h; rw [shL_length]; exact skR_le rfl
theorem skR_false' {zs : List Nat} {ss : List Int} {sz : List Nat} (h : skR zs ss = (sz, false)) : sz = [] := by
  unfold skR at h; split at h <;> cases h; rfl
structure SkOk (sz : List Nat) (ss : List Int) : Prop where
  lo : 1 ≤ ss.length
  hi : ss.length ≤ 32
  len : sz.length = ss.length
  fin : ∀ k, k < ss.length → isFin .f32 (sz[k]?.getD 0) = true
theorem skR_true {zs : List Nat} {ss : List Int} {sz : List Nat} (h : skR zs ss = (sz, true)) : SkOk sz ss := by
  unfold skR at h; split at h
  · rename_i hc
    cases h
    rw [Bool.and_eq_true] at hc
    obtain ⟨h1, h2⟩ := hc
    unfold saltsN at h1
    simp only [Bool.and_eq_true, decide_eq_true_eq] at h1
    refine ⟨h1.1, h1.2, skL_length _ _, fun k hk => ?_⟩
    rw [skL_get zs ss k hk]
    obtain ⟨⟨pv, pb⟩, hp⟩ : ∃ p, signRowR zs (ss[k]?.getD 0) = p := ⟨_, rfl⟩
    have h3 : (signRowR zs (ss[k]?.getD 0)).2 = true := zall_at h2 hk
    rw [hp] at h3
    obtain rfl : pb = true := h3
    obtain ⟨b, e1, e2⟩ := finV_some (sr_true hp).2
    rw [e1]; exact e2
  · cases h
/-- a product is told and finite -/
theorem shV_fin {m b : Nat} (h1 : 1 ≤ m) (h2 : m ≤ 32) (hb : isFin .f32 b = true) : ∃ r, shV m b = some r ∧ isFin .f32 r = true := by
  obtain ⟨y, n, j, e1, e2, e3⟩ := by_ok h1 h2
  obtain ⟨s, k, i, hd⟩ := isFin_number hb
  obtain ⟨r, hr, hf⟩ := mul_le1 hd e2 e3
  refine ⟨r, ?_, hf⟩
  unfold shV
  rw [e1, fin_fvS hb]
  exact hr
theorem flos_takeS (zs : List Nat) (k : Nat) (h : k < zs.length) : flos (zs.take (k + 1)) = flos (zs.take k) ++ [.float .f32 (zs[k]?.getD 0)] := by
  unfold flos
  rw [List.take_succ_eq_append_getElem h, List.map_append, List.getElem?_eq_getElem h]
  rfl
/-- a list some of whose numbers are replaced -/
def mixF (f : Nat → Value) (zs : List Nat) (k : Nat) (i : Nat) : Value := if i < k then .float .f32 (zs[i]?.getD 0) else f i
theorem mixF_step (f : Nat → Value) (zs : List Nat) (k : Nat) {w : World} {b n : Nat} {t : TypeId} (h : w.rowIs b t n (mixF f zs k)) : (w.setCell ⟨b, k, none⟩ (.float .f32 (zs[k]?.getD 0))).rowIs b t n (mixF f zs (k + 1)) := by
  refine (h.set k _).congr fun i hi => ?_
  unfold mixF
  by_cases e : i = k
  · subst e; rw [if_pos rfl, if_pos (by omega)]
  · rw [if_neg e]
    by_cases e2 : i < k
    · rw [if_pos e2, if_pos (by omega)]
    · rw [if_neg e2, if_neg (by omega)]
set_option maxHeartbeats 4000000 in
theorem c_impl_ShrinkVector (a : Option Addr) (n cap : Nat) (zs : List Nat) (a' : Option Addr) (m cap' : Nat) (ss : List Int) (w : World) {rz : List Nat} {rb : Bool} (hv : shR zs ss = (rz, rb)) (hm : n ≤ 1048576) (h : Reads w a n (flos zs)) (hm' : m ≤ 1048576) (h' : Reads w a' m (ints ss)) (hb : ∀ z ∈ zs, z < 4294967296) :
    Calls Try.prog 34 #[.slice a n cap, .slice a' m cap'] w (RetSB 26 rz.length (flos rz) rb w) := by
  have hz' := h'.int.1
  have H := Lib.hid h
  have H' := Lib.hid h'
  have HM := Lib.hid hm
  have HM' := Lib.hid hm'
  have HB := Lib.hid hb
  obtain ⟨⟨sz, sb⟩, hs⟩ : ∃ p, skR zs ss = p := ⟨_, rfl⟩
  have HS := Lib.hid hs
  unfold shR at hv
  rw [hs] at hv
  simp only [Prod.mk.injEq] at hv
  obtain ⟨rfl, rfl⟩ := hv
  clear h h' hm hm' hb
  cases sb
  · obtain rfl := skR_false' hs
    clear hs hz'
    go_enter Try.func34, Try.ntmps34
    go_wp2_with fail
    refine (c_impl_SignSketch a n cap zs a' m cap' ss _ HS.out HM.out H.out HM'.out H'.out HB.out).mono ?_; rintro e w2 ⟨a2, c2, rfl, o2, x2⟩
    have X2 := Lib.hid x2
    clear o2 x2
    go_wp2
    go_ret2
    exact ⟨none, 0, rfl, Own.nil _ _ _ _, X2.out⟩
  · have OK := Lib.hid (skR_true hs)
    have HZ := Lib.hid hz'
    have HLL := Lib.hid (show sz.length = m by rw [OK.out.len, hz'])
    have m1 : 1 ≤ m := by have := OK.out.lo; omega
    have m2 : m ≤ 32 := by have := OK.out.hi; omega
    have m2' : (m : Int) ≤ 32 := by omega
    rw [shL_length, HLL.out]
    clear hs hz'
    go_enter Try.func34, Try.ntmps34
    go_wp2_with fail
    refine (c_impl_SignSketch a n cap zs a' m cap' ss _ HS.out HM.out H.out HM'.out H'.out HB.out).mono ?_; rintro e w2 ⟨a2, c2, rfl, o2, x2⟩
    rw [HLL.out] at o2 ⊢
    have X2 := Lib.hid x2
    obtain ⟨_, hc2, h0 | ⟨g, f, rfl, hg1, hg2, hrow, hf⟩⟩ := o2
    · omega
    have HC2 := Lib.hid hc2
    have HG1 := Lib.hid hg1
    have HG2 := Lib.hid hg2
    have HRW := Lib.hid hrow
    have HF := Lib.hid hf
    clear x2 hc2 hg1 hg2 hrow hf
    go_wp2_with fail
    refine (c_impl_RootNumber_v _ _ rfl).mono ?_; rintro e w3 ⟨r3, rfl, hr3, hlt3, q3, hq3⟩
    have X3 := Lib.hid (show Ext w2 w3 by rw [hq3]; exact Ext.drewN _ _)
    have HR3 := Lib.hid hr3
    clear hr3 hlt3 hq3
    go_wp2_with fail
    (with_reducible refine upon_fl rfl ?_); intro y ny hy
    have HY := Lib.hid (show fv .f32 y = byOf m by rw [hy.out, HR3.out]; rfl)
    clear hy
    obtain ⟨u, hu⟩ : ∃ u, w3.drewN ny = u := ⟨_, rfl⟩
    have XU := Lib.hid (show Ext w2 u by rw [← hu]; exact X3.out.trans (Ext.drewN _ _))
    rw [hu]
    clear hu
    go_wp2_with fail
    go_loopw [25] (fun i wr => ∃ k : Nat, k ≤ m ∧ i = .int .i64 k ∧ wr.rowIs g 26 c2 (mixF f (shL sz ss.length) k) ∧ Ext w wr) (fun i _ => m - (intOf i).toNat)
    case atStart => exact ⟨0, Nat.zero_le _, rfl, (rowIs_onK HRW.out XU.out).congr fun i _ => rfl, X2.out.trans XU.out⟩
    case round =>
      obtain ⟨k, hk, rfl, hrow, hext⟩ := hrel
      have HRR := Lib.hid hrow
      have HE := Lib.hid hext
      clear hrow hext
      by_cases hlt : k < m
      · have hlt' : (k : Int) < (m : Int) := by omega
        obtain ⟨x, hx⟩ : ∃ x, sz[k]?.getD 0 = x := ⟨_, rfl⟩
        have HX := Lib.hid hx
        have hcur0 := HRR.out.cell (show k < c2 by have := HC2.out; omega)
        have hfk : f k = .float .f32 x := by
          have h1 := HF.out k hlt
          rw [flos_get sz k (by rw [HLL.out]; exact hlt), hx] at h1
          exact (Option.some.inj h1).symm
        have hcell : ∀ q, (wr.drewN q).cell? ⟨g, k, none⟩ = some (.float .f32 x) := fun q => Ext.some (Ext.drewN wr q) (by rw [hcur0]; unfold mixF; rw [if_neg (Nat.lt_irrefl k), hfk])
        have hfro : ∀ q, (wr.drewN q).frozen? ⟨g, k, none⟩ = false := fun q => (rowIs_onK HRR.out (Ext.drewN wr q)).frozen k
        have hc0 : wr.cell? ⟨g, k, none⟩ = some (.float .f32 x) := by rw [hcur0]; unfold mixF; rw [if_neg (Nat.lt_irrefl k), hfk]
        clear hx hcur0 hfk
        go_wp2_with fail
        (with_reducible refine upon_fl rfl ?_); intro p np hp
        have HP := Lib.hid (show p = (shL sz ss.length)[k]?.getD 0 by
          have h1 : fv .f32 p = shV m x := by rw [hp.out, HY.out]; rfl
          obtain ⟨r, e1, e2⟩ := shV_fin (m := m) m1 m2 (b := x) (by rw [← HX.out]; exact OK.out.fin k (by rw [HZ.out]; exact hlt))
          rw [e1] at h1
          rw [shL_get sz _ k (by rw [HLL.out]; exact hlt), HX.out, HZ.out, e1, fv_isS h1]; rfl)
        have HST := Lib.hid (show ∀ q, ((wr.drewN q).setCell ⟨g, k, none⟩ (.float .f32 p)).rowIs g 26 c2 (mixF f (shL sz ss.length) (k + 1)) from fun q => by
          have := mixF_step f (shL sz ss.length) k (rowIs_onK HRR.out (Ext.drewN wr q))
          rw [← HP.out] at this
          exact this)
        have HE2 := Lib.hid (show ∀ q, Ext w ((wr.drewN q).setCell ⟨g, k, none⟩ (.float .f32 p)) from fun q => Below.setCell (HE.out.trans (Ext.drewN _ _)) HG1.out _)
        clear hp
        go_wp2
        go_roundw
        case rel => exact ⟨k + 1, by omega, by go_num, HST.out _, HE2.out _⟩
        case measure => simp [intOf]; omega
      · obtain rfl : k = m := by omega
        clear hlt
        go_wp2
        go_ret2
        refine ⟨_, _, rfl, ⟨by rw [flos_length, shL_length]; exact HLL.out, HC2.out, .inr ⟨g, _, rfl, HG1.out, HRR.out.lt, HRR.out, fun i hi => ?_⟩⟩, HE.out⟩
        rw [flos_get _ i (by rw [shL_length, HLL.out]; exact hi)]; unfold mixF; rw [if_pos hi]
set_option maxHeartbeats 4000000 in
theorem c_spec_ShrinkVector (a : Option Addr) (n cap : Nat) (zs : List Nat) (a' : Option Addr) (m cap' : Nat) (ss : List Int) (w : World) {rz : List Nat} {rb : Bool} (hv : shR zs ss = (rz, rb)) (hm : n ≤ 1048576) (h : Reads w a n (flos zs)) (hm' : m ≤ 1048576) (h' : Reads w a' m (ints ss)) (hb : ∀ z ∈ zs, z < 4294967296) :
    Calls Try.prog 33 #[.slice a n cap, .slice a' m cap'] w (RetSB 26 rz.length (flos rz) rb w) := by
  have hz' := h'.int.1
  obtain ⟨i0, hi, hi0, hi1, hi2⟩ := info_parts info_f32
  have H := Lib.hid h
  have H' := Lib.hid h'
  have HM := Lib.hid hm
  have HM' := Lib.hid hm'
  have HB := Lib.hid hb
  obtain ⟨⟨sz, sb⟩, hs⟩ : ∃ p, skR zs ss = p := ⟨_, rfl⟩
  have HS := Lib.hid hs
  unfold shR at hv
  rw [hs] at hv
  simp only [Prod.mk.injEq] at hv
  obtain ⟨rfl, rfl⟩ := hv
  clear h h' hm hm' hb
  cases sb
  · obtain rfl := skR_false' hs
    clear hs hz'
    go_enter Try.func33, Try.ntmps33
    go_wp2_with fail
    refine (c_spec_SignSketch a n cap zs a' m cap' ss _ HS.out HM.out H.out HM'.out H'.out HB.out).mono ?_; rintro e w2 ⟨a2, c2, rfl, o2, x2⟩
    have X2 := Lib.hid x2
    clear o2 x2
    go_wp2
    go_ret2
    exact ⟨none, 0, rfl, Own.nil _ _ _ _, X2.out⟩
  · have OK := Lib.hid (skR_true hs)
    have HZ := Lib.hid hz'
    have HLL := Lib.hid (show sz.length = m by rw [OK.out.len, hz'])
    have m1 : 1 ≤ m := by have := OK.out.lo; omega
    have m2 : m ≤ 32 := by have := OK.out.hi; omega
    have m2' : (m : Int) ≤ 32 := by omega
    rw [shL_length, HLL.out]
    clear hs hz'
    go_enter Try.func33, Try.ntmps33
    go_wp2_with fail
    refine (c_spec_SignSketch a n cap zs a' m cap' ss _ HS.out HM.out H.out HM'.out H'.out HB.out).mono ?_; rintro e w2 ⟨a2, c2, rfl, o2, x2⟩
    rw [HLL.out] at o2 ⊢
    have X2 := Lib.hid x2
    have O2 := Lib.hid o2.reads
    clear x2 o2
    go_wp2_with fail
    refine (c_spec_l01Sqrt_v _ _ rfl).mono ?_; rintro e w3 ⟨r3, rfl, hr3, hlt3, q3, hq3⟩
    have X3 := Lib.hid (show Ext w2 w3 by rw [hq3]; exact Ext.drewN _ _)
    have HR3 := Lib.hid hr3
    clear hr3 hlt3 hq3
    go_wp2_with fail
    (with_reducible refine upon_fl rfl ?_); intro y ny hy
    have HY := Lib.hid (show fv .f32 y = byOf m by rw [hy.out, HR3.out]; rfl)
    clear hy
    obtain ⟨u, hu⟩ : ∃ u, w3.drewN ny = u := ⟨_, rfl⟩
    have XU := Lib.hid (show Ext w2 u by rw [← hu]; exact X3.out.trans (Ext.drewN _ _))
    rw [hu]
    clear hu
    go_wp2_with fail
    go_loopw [9, 27] (fun v i wr => ∃ k : Nat, k ≤ m ∧ i = .int .i64 k ∧ wr.ownsRow u.heap.size 26 1 v k (flos ((shL sz ss.length).take k)) ∧ Ext u wr) (fun _ i _ => m - (intOf i).toNat)
    case atStart => exact ⟨0, Nat.zero_le _, rfl, World.ownsRow_made _ _ _ (Nat.le_refl _) (Nat.zero_le _) rfl, Ext.alloc _ _⟩
    case round =>
      obtain ⟨k, hk, rfl, hown, hext⟩ := hrel
      have HO := Lib.hid hown
      have HE := Lib.hid hext
      clear hown hext
      by_cases hlt : k < m
      · have hlt' : (k : Int) < (m : Int) := by omega
        rcases O2.out.flo.2 with h0 | ⟨b, off, rfl, hc⟩
        · omega
        have hcell : wr.cell? ⟨b, off + k, none⟩ = some (.float .f32 (sz[k]?.getD 0)) := by
          have h1 := hc k hlt
          rw [(XU.out.trans HE.out).cell b _ (World.block_lt_of_cell? w2 ⟨b, off + k, none⟩ h1)]; exact h1
        obtain ⟨x, hx⟩ : ∃ x, sz[k]?.getD 0 = x := ⟨_, rfl⟩
        have HX := Lib.hid hx
        rw [hx] at hcell
        clear hx hc
        go_wp2_with fail
        (with_reducible refine upon_fl rfl ?_); intro p np hp
        have HP := Lib.hid (show p = (shL sz ss.length)[k]?.getD 0 by
          have h1 : fv .f32 p = shV m x := by rw [hp.out, HY.out]; rfl
          obtain ⟨r, e1, e2⟩ := shV_fin (m := m) m1 m2 (b := x) (by rw [← HX.out]; exact OK.out.fin k (by rw [HZ.out]; exact hlt))
          rw [e1] at h1
          rw [shL_get sz _ k (by rw [HLL.out]; exact hlt), HX.out, HZ.out, e1, fv_isS h1]; rfl)
        have HT := Lib.hid (show flos ((shL sz ss.length).take (k + 1)) = flos ((shL sz ss.length).take k) ++ [.float .f32 p] by
          rw [flos_takeS _ k (by rw [shL_length, HLL.out]; exact hlt), ← HP.out])
        clear hp
        obtain ⟨w4, hw4⟩ : ∃ w4, wr.drewN np = w4 := ⟨_, rfl⟩
        have X4 : Ext wr w4 := by rw [← hw4]; exact Ext.drewN _ _
        have HO4 := Lib.hid (ownsRow_onK HO.out X4)
        have HE4 := Lib.hid (HE.out.trans X4)
        rw [hw4]
        clear hw4 X4 hcell
        go_wp2_with (at_builtin; refine wpList_append_own _ rfl _ _ 22 rfl u.heap.size 26 i0 (.float .f32 0) 1 4 Try.underlying22 hi hi0 hi1 hi2 rfl (by decide) _ _ _ rfl (HO4.out.alloc _) ⟨_, 0, none⟩ 1 1 [.float .f32 p] rfl rfl ?c1 ?c2 ?c3 ?c4 ?c5 ?_)
        case c1 => exact one_cell_at _ _ _
        case c2 => intro u hu; simp at hu; subst hu; rfl
        case c3 => unfold maxLen; omega
        case c4 => omega
        case c5 => have := HE4.out.size; simp; omega
        intro v' w5 hown' hgrow _
        have HO' := Lib.hid hown'
        have HE' := Lib.hid (app_step HE4.out HO4.out hgrow)
        clear hown' hgrow
        go_wp2
        go_roundw
        case rel => exact ⟨k + 1, by omega, by go_num, by rw [HT.out]; exact HO'.out, HE'.out⟩
        case measure => simp [intOf]; omega
      · obtain rfl : k = m := by omega
        obtain ⟨a', c', hv', ho⟩ := Own.of_row (e := 0) HO.out
        subst hv'
        have ho2 := ho
        rw [List.take_of_length_le (by rw [shL_length, HLL.out]; exact Nat.le_refl _)] at ho2
        have HO' := Lib.hid ho2
        have HF := Lib.hid (show finB (shL sz ss.length) = true from finB_mk fun i hi => by
          rw [shL_length, HLL.out] at hi
          obtain ⟨r, e1, e2⟩ := shV_fin (m := k) m1 m2 (b := sz[i]?.getD 0) (OK.out.fin i (by rw [HZ.out]; exact hi))
          rw [shL_get sz _ i (by rw [HLL.out]; exact hi), HZ.out, e1]
          exact e2)
        clear ho ho2 hlt
        go_wp2_with fail
        refine (c_spec_l02Finite _ _ _ (shL sz ss.length) _ HF.out (by unfold maxLen; omega) HO'.out.reads).mono ?_; rintro e w' ⟨rfl, q5, rfl⟩
        go_wp2
        go_ret2
        refine ⟨_, _, rfl, ?_, ((X2.out.trans XU.out).trans HE.out).trans (Ext.drewN _ _)⟩
        exact (HO'.out.on (Ext.drewN _ _)).wide (Nat.le_trans X2.out.size XU.out.size) (Nat.le_refl _)
end Go.Proofs.Ytlfdljakcbfkaaa
