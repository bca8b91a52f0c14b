/- PlaneBits, AngleAbout: what both sides answer. -/
import Derived.Test.YtlfdljakcbfkaaaVsk
import Derived.Test.YtlfdljakcbfkaaaBls
import Derived.Deep.RegionHeld3
import Derived.Deep.DeepCutAuto
import Derived.Deep.LoopGhost
namespace Go.Proofs.Ytlfdljakcbfkaaa
open Go.ChangeShapes Go.WideShapes Go.ChangeAt Go.RowKit Go.Proofs.Ytlfdljakcbfkaaa.Flo
set_option linter.unusedVariables false
attribute [local go_sem] run_fl_add run_fl_sub run_fl_mul run_fl_quo run_conv run_store_float run_store_complex
/-- at least 0 -/
def geq0 (x : Nat) : Bool := FloatKind.f32.format.order x 0 == some .gt || FloatKind.f32.format.order x 0 == some .eq
def geqs (zs : List Nat) : List Bool := zs.map geq0
theorem geqs_length (zs : List Nat) : (geqs zs).length = zs.length := List.length_map _
theorem geqs_get (zs : List Nat) (k : Nat) (h : k < zs.length) : (geqs zs)[k]?.getD false = geq0 (zs[k]?.getD 0) := by simp [geqs, h]
def pbR (zs : List Nat) (ss : List Int) : List Bool × Bool := (geqs (skR zs ss).1, (skR zs ss).2)
theorem skR_false {zs : List Nat} {ss : List Int} {sz : List Nat} (h : skR zs ss = (sz, false)) : sz = [] := by
  unfold skR at h; split at h <;> cases h; rfl
theorem pbR_le {zs : List Nat} {ss : List Int} {rz : List Bool} {rb : Bool} (h : pbR zs ss = (rz, rb)) : rz.length ≤ 1048576 := by
  unfold pbR at h
  cases h
  rw [geqs_length]
  exact skR_le rfl
theorem bools_take (zs : List Bool) (k : Nat) (h : k < zs.length) : bools (zs.take (k + 1)) = bools (zs.take k) ++ [.bool (zs[k]?.getD false)] := by
  unfold bools
  rw [List.take_succ_eq_append_getElem h, List.map_append, List.getElem?_eq_getElem h]
  rfl
set_option maxHeartbeats 4000000 in
theorem c_impl_PlaneBits (a : Option Addr) (n cap : Nat) (zs : List Nat) (a' : Option Addr) (m cap' : Nat) (ss : List Int) (w : World) {rz : List Bool} {rb : Bool} (hv : pbR zs ss = (rz, rb)) (hm : n ≤ 1048576) (h : Reads w a n (flos zs)) (hm' : m ≤ 1048576) (h' : Reads w a' m (ints ss)) (hb : ∀ z ∈ zs, z < 4294967296) :
    Calls Try.prog 36 #[.slice a n cap, .slice a' m cap'] w (RetSB 4 rz.length (bools rz) rb w) := by
  have H := Lib.hid h
  have H' := Lib.hid h'
  have HM := Lib.hid hm
  have HM' := Lib.hid hm'
  have HB := Lib.hid hb
  obtain ⟨⟨sz, sb⟩, hs⟩ : ∃ p, skR zs ss = p := ⟨_, rfl⟩
  have HS := Lib.hid hs
  unfold pbR at hv
  rw [hs] at hv
  simp only [Prod.mk.injEq] at hv
  obtain ⟨rfl, rfl⟩ := hv
  have HL := Lib.hid (show sz.length ≤ 1048576 from skR_le hs)
  clear h h' hm hm' hb
  cases sb
  · obtain rfl := skR_false hs
    clear hs
    go_enter Try.func36, Try.ntmps36
    go_wp2_with fail
    refine (c_impl_SignSketch a n cap zs a' m cap' ss _ HS.out HM.out H.out HM'.out H'.out HB.out).mono ?_; rintro e w2 ⟨a2, c2, rfl, o2, x2⟩
    have X2 := Lib.hid x2
    clear o2 x2
    go_wp2
    go_ret2
    exact ⟨none, 0, rfl, Own.nil _ _ _ _, X2.out⟩
  · obtain ⟨l, hl⟩ : ∃ l, sz.length = l := ⟨_, rfl⟩
    have HLL := Lib.hid hl
    have hl2 : l ≤ 1048576 := by have := HL.out; omega
    have hmk := run_make_row' (P := Try.prog) 42 4 (.bool false) 1 Try.underlying42 info_bool rfl .i64 .i64 l (by omega) (by omega)
    rw [geqs_length, hl]
    clear hs hl
    go_enter Try.func36, Try.ntmps36
    go_wp2_with fail
    refine (c_impl_SignSketch a n cap zs a' m cap' ss _ HS.out HM.out H.out HM'.out H'.out HB.out).mono ?_; rintro e w2 ⟨a2, c2, rfl, o2, x2⟩
    rw [HLL.out] at o2 ⊢
    have X2 := Lib.hid x2
    have O2 := Lib.hid o2.reads
    clear o2 x2
    go_wp2
    go_loopw [24] (fun i wr => ∃ k : Nat, k ≤ l ∧ i = .int .i64 k ∧ wr.rowIs w2.heap.size 4 l (fillFB (geqs sz) k) ∧ Ext w2 wr) (fun i _ => l - (intOf i).toNat)
    case atStart => exact ⟨0, Nat.zero_le _, rfl, (World.rowIs_made _ _ _ _).congr fun i _ => rfl, Ext.alloc _ _⟩
    case round =>
      obtain ⟨k, hk, rfl, hrow, hext⟩ := hrel
      by_cases hlt : k < l
      · rcases O2.out.flo.2 with h0 | ⟨b, off, rfl, hc⟩
        · omega
        have hcell : wr.cell? ⟨b, off + k, none⟩ = some (.float .f32 (sz[k]?.getD 0)) := by
          have h1 := hc k hlt
          rw [hext.cell b _ (World.block_lt_of_cell? w2 ⟨b, off + k, none⟩ h1)]; exact h1
        obtain ⟨x, hx⟩ : ∃ x, sz[k]?.getD 0 = x := ⟨_, rfl⟩
        rw [hx] at hcell
        have hcur := hrow.cell hlt
        have hfro := hrow.frozen k
        have HST := Lib.hid (show (wr.setCell ⟨w2.heap.size, k, none⟩ (.bool (geq0 x))).rowIs w2.heap.size 4 l (fillFB (geqs sz) (k + 1)) by
          have := fillFB_step (geqs sz) k hrow
          rw [geqs_get sz k (by rw [HLL.out]; exact hlt), hx] at this
          exact this)
        have HE := Lib.hid (show Ext w2 (wr.setCell ⟨w2.heap.size, k, none⟩ (.bool (geq0 x))) from Below.setCell hext (Nat.le_refl _) _)
        clear hc hrow hext hx
        go_wp2
        go_roundw
        case rel => exact ⟨k + 1, by omega, by go_num, HST.out, HE.out⟩
        case measure => simp [intOf]; omega
      · obtain rfl : k = l := by omega
        have HR := Lib.hid hrow
        have HE := Lib.hid hext
        clear hrow hext
        go_wp2
        go_ret2
        refine ⟨_, _, rfl, ?_, X2.out.trans HE.out⟩
        exact own_made (by rw [bools_length, geqs_length]; exact HLL.out) X2.out.size HR.out (fun i hi => by rw [bools_get _ i (by rw [geqs_length, HLL.out]; exact hi)]; unfold fillFB; rw [if_pos hi])
set_option maxHeartbeats 4000000 in
theorem c_spec_PlaneBits (a : Option Addr) (n cap : Nat) (zs : List Nat) (a' : Option Addr) (m cap' : Nat) (ss : List Int) (w : World) {rz : List Bool} {rb : Bool} (hv : pbR zs ss = (rz, rb)) (hm : n ≤ 1048576) (h : Reads w a n (flos zs)) (hm' : m ≤ 1048576) (h' : Reads w a' m (ints ss)) (hb : ∀ z ∈ zs, z < 4294967296) :
    Calls Try.prog 35 #[.slice a n cap, .slice a' m cap'] w (RetSB 4 rz.length (bools rz) rb w) := by
  obtain ⟨i0, hi, hi0, hi1, hi2⟩ := info_parts info_bool
  have H := Lib.hid h
  have H' := Lib.hid h'
  have HM := Lib.hid hm
  have HM' := Lib.hid hm'
  have HB := Lib.hid hb
  obtain ⟨⟨sz, sb⟩, hs⟩ : ∃ p, skR zs ss = p := ⟨_, rfl⟩
  have HS := Lib.hid hs
  unfold pbR at hv
  rw [hs] at hv
  simp only [Prod.mk.injEq] at hv
  obtain ⟨rfl, rfl⟩ := hv
  have HL := Lib.hid (show sz.length ≤ 1048576 from skR_le hs)
  clear h h' hm hm' hb
  cases sb
  · obtain rfl := skR_false hs
    clear hs
    go_enter Try.func35, Try.ntmps35
    go_wp2_with fail
    refine (c_spec_SignSketch a n cap zs a' m cap' ss _ HS.out HM.out H.out HM'.out H'.out HB.out).mono ?_; rintro e w2 ⟨a2, c2, rfl, o2, x2⟩
    have X2 := Lib.hid x2
    clear o2 x2
    go_wp2
    go_ret2
    exact ⟨none, 0, rfl, Own.nil _ _ _ _, X2.out⟩
  · obtain ⟨l, hl⟩ : ∃ l, sz.length = l := ⟨_, rfl⟩
    have HLL := Lib.hid hl
    have hl2 : l ≤ 1048576 := by have := HL.out; omega
    rw [geqs_length, hl]
    clear hs hl
    go_enter Try.func35, Try.ntmps35
    go_wp2_with fail
    refine (c_spec_SignSketch a n cap zs a' m cap' ss _ HS.out HM.out H.out HM'.out H'.out HB.out).mono ?_; rintro e w2 ⟨a2, c2, rfl, o2, x2⟩
    rw [HLL.out] at o2 ⊢
    have X2 := Lib.hid x2
    have O2 := Lib.hid o2.reads
    clear o2 x2
    go_wp2
    go_loopw [8, 21] (fun v i wr => ∃ k : Nat, k ≤ l ∧ i = .int .i64 k ∧ wr.ownsRow w2.heap.size 4 1 v k (bools ((geqs sz).take k)) ∧ Ext w2 wr) (fun _ i _ => l - (intOf i).toNat)
    case atStart => exact ⟨0, Nat.zero_le _, rfl, World.ownsRow_made _ _ _ (Nat.le_refl _) (Nat.zero_le _) rfl, Ext.alloc _ _⟩
    case round =>
      obtain ⟨k, hk, rfl, hown, hext⟩ := hrel
      have HO := Lib.hid hown
      have HE := Lib.hid hext
      clear hown hext
      by_cases hlt : k < l
      · rcases O2.out.flo.2 with h0 | ⟨b, off, rfl, hc⟩
        · omega
        have hcell : wr.cell? ⟨b, off + k, none⟩ = some (.float .f32 (sz[k]?.getD 0)) := by
          have h1 := hc k hlt
          rw [HE.out.cell b _ (World.block_lt_of_cell? w2 ⟨b, off + k, none⟩ h1)]; exact h1
        obtain ⟨x, hx⟩ : ∃ x, sz[k]?.getD 0 = x := ⟨_, rfl⟩
        have HT := Lib.hid (show bools ((geqs sz).take (k + 1)) = bools ((geqs sz).take k) ++ [.bool (geq0 x)] by
          rw [bools_take _ k (by rw [geqs_length, HLL.out]; exact hlt), geqs_get sz k (by rw [HLL.out]; exact hlt), hx])
        rw [hx] at hcell
        clear hc hx
        go_wp2_with (at_builtin; refine wpList_append_own _ rfl _ _ 42 rfl w2.heap.size 4 i0 (.bool false) 1 1 Try.underlying42 hi hi0 hi1 hi2 rfl (by decide) _ _ _ rfl (HO.out.alloc _) ⟨_, 0, none⟩ 1 1 [.bool (geq0 x)] rfl rfl ?c1 ?c2 ?c3 ?c4 ?c5 ?_)
        case c1 => exact one_cell_at _ _ _
        case c2 => intro u hu; simp at hu; subst hu; rfl
        case c3 => unfold maxLen; omega
        case c4 => omega
        case c5 => have := HE.out.size; simp; omega
        intro v' w4 hown' hgrow _
        have HO' := Lib.hid hown'
        have HE' := Lib.hid (app_step HE.out HO.out hgrow)
        clear hown' hgrow
        go_wp2
        go_roundw
        case rel => exact ⟨k + 1, by omega, by go_num, by rw [HT.out]; exact HO'.out, HE'.out⟩
        case measure => simp [intOf]; omega
      · obtain rfl : k = l := by omega
        obtain ⟨a', c', hv', ho⟩ := Own.of_row (e := 0) HO.out
        subst hv'
        have HO' := Lib.hid ho
        clear ho hlt
        go_wp2
        go_ret2
        refine ⟨_, _, rfl, ?_, X2.out.trans HE.out⟩
        have := HO'.out
        rw [List.take_of_length_le (by rw [geqs_length, HLL.out]; exact Nat.le_refl _)] at this
        exact this.wide X2.out.size (Nat.le_refl _)
theorem c_heldB_E (a : Option Addr) (n cap s : Nat) (w : World) (hn : n ≤ 1048576) (hs : s ≤ 1073741824) (h : Reads w a n (bools (bmarks s n))) :
    Calls Try.prog 39 #[.slice a n cap, .int .i64 s] w fun e w' => e = .returned (.int .i64 ((s + n : Nat) : Int)) ∧ Ext w w' :=
  (c_heldB a n cap s w hn hs h).mono (by rintro e w' ⟨rfl, rfl⟩; exact ⟨rfl, Ext.refl _⟩)
/-- how many of the first bits differ -/
def diffTo (xs ys : List Bool) : Nat → Nat
  | 0 => 0
  | k + 1 => diffTo xs ys k + (if (xs[k]?.getD false != ys[k]?.getD false) = true then 1 else 0)
theorem diffTo_le (xs ys : List Bool) : ∀ k, diffTo xs ys k ≤ k
  | 0 => Nat.le_refl _
  | k + 1 => by have := diffTo_le xs ys k; unfold diffTo; split <;> omega
def bitsOk (xs : List Bool) : Bool := decide (1 ≤ xs.length) && decide (xs.length ≤ 32)
def angleR (xs ys : List Bool) : Option Nat × Bool :=
  if bitsOk xs && decide (ys.length = xs.length) then (fop .quo .f32 (fv .f32 (floatOfInt .f32 ((diffTo xs ys xs.length : Nat) : Int))) (fv .f32 (floatOfInt .f32 (2 * ((xs.length : Nat) : Int)))), true) else (some 0, false)
theorem angleR_1 {xs ys : List Bool} (h : bitsOk xs = false) : angleR xs ys = (some 0, false) := if_neg (by rw [h]; simp)
theorem angleR_2 {xs ys : List Bool} (h : ys.length ≠ xs.length) : angleR xs ys = (some 0, false) := if_neg (by rw [decide_eq_false h, Bool.and_false]; decide)
theorem angleR_3 {xs ys : List Bool} (h : bitsOk xs = true) (h2 : ys.length = xs.length) : angleR xs ys = (fop .quo .f32 (fv .f32 (floatOfInt .f32 ((diffTo xs ys xs.length : Nat) : Int))) (fv .f32 (floatOfInt .f32 (2 * ((xs.length : Nat) : Int)))), true) := if_pos (by rw [h, decide_eq_true h2]; rfl)
theorem fv_zero32 : fv .f32 0 = some 0 := by kernel_rfl
theorem c_impl_areBits (a : Option Addr) (n cap : Nat) (xs : List Bool) (w : World) {r : Bool} (hr : bitsOk xs = r) (hz : xs.length = n) :
    Calls Try.prog 79 #[.slice a n cap] w fun e w' => e = .returned (.bool r) ∧ w = w' := by
  unfold bitsOk at hr
  rw [hz] at hr
  by_cases h1 : n < 1
  · have HR := Lib.hid (show r = false by rw [← hr, decide_eq_false (by omega)]; rfl)
    have g1 : ¬ (1 : Int) ≤ (n : Int) := by omega
    obtain rfl : n = 0 := by omega
    clear hr h1 hz
    go_enter Try.func79, Try.ntmps79
    go_wp2
    go_ret
    exact ⟨retB (by rw [HR.out]), rfl⟩
  by_cases h2 : 32 < n
  · have HR := Lib.hid (show r = false by rw [← hr, decide_eq_false (show ¬ n ≤ 32 by omega), Bool.and_false])
    have g1 : (1 : Int) ≤ (n : Int) := by omega
    have g2 : (32 : Int) < (n : Int) := by omega
    clear hr h1 h2 hz
    go_enter Try.func79, Try.ntmps79
    go_wp2
    go_ret
    exact ⟨retB (by first | (rw [HR.out]; done) | (rw [HR.out]; rfl) | (rw [HR.out]; first | (simp; done) | (simp; omega))), rfl⟩
  · have HR := Lib.hid (show r = true by rw [← hr, decide_eq_true (show 1 ≤ n by omega), decide_eq_true (show n ≤ 32 by omega)]; rfl)
    have g1 : (1 : Int) ≤ (n : Int) := by omega
    have g2 : (n : Int) ≤ 32 := by omega
    clear hr h1 h2 hz
    go_enter Try.func79, Try.ntmps79
    go_wp2
    go_ret
    exact ⟨retB (by first | (rw [HR.out]; done) | (rw [HR.out]; rfl) | (rw [HR.out]; first | (simp; done) | (simp; omega))), rfl⟩
set_option maxHeartbeats 2000000 in
theorem c_impl_AngleAbout (a : Option Addr) (n cap : Nat) (xs : List Bool) (a' : Option Addr) (n' cap' : Nat) (ys : List Bool) (w : World) {v : Option Nat} {rb : Bool} (hv : angleR xs ys = (v, rb)) (hm : n ≤ 1048576) (h : Reads w a n (bools xs)) (hm' : n' ≤ 1048576) (h' : Reads w a' n' (bools ys)) :
    Calls Try.prog 42 #[.slice a n cap, .slice a' n' cap'] w fun e w' => ∃ f, e = .returned (.tuple #[.float .f32 f, .bool rb]) ∧ fv .f32 f = v ∧ Ext w w' := by
  obtain ⟨hz, hr⟩ := h.bool
  obtain ⟨hz', hr'⟩ := h'.bool
  have HZ := Lib.hid hz
  cases hx : bitsOk xs
  · rw [angleR_1 hx] at hv
    simp only [Prod.mk.injEq] at hv
    obtain ⟨rfl, rfl⟩ := hv
    have HX := Lib.hid hx
    clear h h' hz hz' hr hr' hx hm hm'
    go_enter Try.func42, Try.ntmps42
    go_wp2_with (go_at_call 79; refine (c_impl_areBits _ _ _ xs _ HX.out HZ.out).mono ?_; rintro e w' ⟨rfl, rfl⟩)
    go_ret2
    exact ⟨0, rfl, fv_zero32, Ext.refl _⟩
  have HX := Lib.hid hx
  by_cases hq : n = n'
  · subst hq
    rw [angleR_3 hx (by omega), hz] at hv
    simp only [Prod.mk.injEq] at hv
    obtain ⟨rfl, rfl⟩ := hv
    have hn : n ≤ 32 := by
      unfold bitsOk at hx
      simp only [Bool.and_eq_true, decide_eq_true_eq] at hx
      omega
    have hn' : (n : Int) ≤ 32 := by omega
    have hd : ((n : Int) != (n : Int)) = false := by simp
    have HC := Lib.hid hr
    have HC' := Lib.hid hr'
    clear h h' hz hz' hr hr' hx hm hm'
    go_enter Try.func42, Try.ntmps42
    go_wp2_with (go_at_call 79; refine (c_impl_areBits _ _ _ xs _ HX.out HZ.out).mono ?_; rintro e w' ⟨rfl, rfl⟩)
    go_loop [6, 21] (fun s i => ∃ k d : Nat, k ≤ n ∧ i = .int .i64 k ∧ s = .int .i64 d ∧ d = diffTo xs ys k ∧ d ≤ 32) (fun _ i => n - (intOf i).toNat)
    case atStart => exact ⟨0, 0, Nat.zero_le _, rfl, rfl, rfl, by omega⟩
    case round =>
      obtain ⟨k, d, hk, rfl, rfl, hd', hd32⟩ := hrel
      have HD := Lib.hid hd'
      clear hd'
      by_cases hlt : k < n
      · rcases HC.out with h0 | ⟨b, off, rfl, hc⟩
        · omega
        rcases HC'.out with h0 | ⟨b', off', rfl, hc'⟩
        · omega
        have hcell := hc k hlt
        have hcell' := hc' k hlt
        obtain ⟨x, hx⟩ : ∃ x, xs[k]?.getD false = x := ⟨_, rfl⟩
        obtain ⟨y, hy⟩ : ∃ y, ys[k]?.getD false = y := ⟨_, rfl⟩
        have HS := Lib.hid (show diffTo xs ys (k + 1) = d + (if (x != y) = true then 1 else 0) by unfold diffTo; rw [hx, hy, ← HD.out])
        have HL := Lib.hid (diffTo_le xs ys (k + 1))
        rw [hx] at hcell
        rw [hy] at hcell'
        clear hc hc' hx hy
        cases x <;> cases y
        all_goals
          go_wp2
          go_round
          case rel => exact ⟨k + 1, diffTo xs ys (k + 1), by omega, by go_num, by first | (rw [HS.out]; simp; done) | (rw [HS.out]; go_num), rfl, by have h2 := HL.out; omega⟩
          case measure => simp [intOf]; omega
      · obtain rfl : k = n := by omega
        subst_vars
        go_wp2
        go_ret2
        exact ⟨_, rfl, fv_flR _ _ _ _ _, Ext.drewN _ _⟩
  · rw [angleR_2 (by omega)] at hv
    simp only [Prod.mk.injEq] at hv
    obtain ⟨rfl, rfl⟩ := hv
    have hd : ((n : Int) != (n' : Int)) = true := by rw [bne_iff_ne]; omega
    clear h h' hz hz' hr hr' hx hm hm' hq
    go_enter Try.func42, Try.ntmps42
    go_wp2_with (go_at_call 79; refine (c_impl_areBits _ _ _ xs _ HX.out HZ.out).mono ?_; rintro e w' ⟨rfl, rfl⟩)
    go_ret2
    exact ⟨0, rfl, fv_zero32, Ext.refl _⟩
set_option maxHeartbeats 2000000 in
theorem c_spec_AngleAbout (a : Option Addr) (n cap : Nat) (xs : List Bool) (a' : Option Addr) (n' cap' : Nat) (ys : List Bool) (w : World) {v : Option Nat} {rb : Bool} (hv : angleR xs ys = (v, rb)) (hm : n ≤ 1048576) (h : Reads w a n (bools xs)) (hm' : n' ≤ 1048576) (h' : Reads w a' n' (bools ys)) :
    Calls Try.prog 40 #[.slice a n cap, .slice a' n' cap'] w fun e w' => ∃ f, e = .returned (.tuple #[.float .f32 f, .bool rb]) ∧ fv .f32 f = v ∧ Ext w w' := by
  obtain ⟨hz, hr⟩ := h.bool
  obtain ⟨hz', hr'⟩ := h'.bool
  by_cases h1 : n < 1
  · rw [angleR_1 (by unfold bitsOk; rw [decide_eq_false (by omega)]; rfl)] at hv
    simp only [Prod.mk.injEq] at hv
    obtain ⟨rfl, rfl⟩ := hv
    obtain rfl : n = 0 := by omega
    clear h h' hz hz' hr hr' hm hm' h1
    go_enter Try.func40, Try.ntmps40
    go_wp2
    go_ret2
    exact ⟨0, rfl, fv_zero32, Ext.refl _⟩
  have g1 : ¬ (n : Int) < 1 := by omega
  by_cases h2 : 32 < n
  · rw [angleR_1 (by unfold bitsOk; rw [decide_eq_false (show ¬ xs.length ≤ 32 by omega), Bool.and_false])] at hv
    simp only [Prod.mk.injEq] at hv
    obtain ⟨rfl, rfl⟩ := hv
    have g2 : (32 : Int) < (n : Int) := by omega
    clear h h' hz hz' hr hr' hm hm' h1 h2
    go_enter Try.func40, Try.ntmps40
    go_wp2
    go_ret2
    exact ⟨0, rfl, fv_zero32, Ext.refl _⟩
  have hx : bitsOk xs = true := by unfold bitsOk; rw [decide_eq_true (by omega), decide_eq_true (by omega)]; rfl
  have hn' : (n : Int) ≤ 32 := by omega
  by_cases hq : n = n'
  · subst hq
    rw [angleR_3 hx (by omega), hz] at hv
    simp only [Prod.mk.injEq] at hv
    obtain ⟨rfl, rfl⟩ := hv
    have hd : ((n : Int) != (n : Int)) = false := by simp
    have HC := Lib.hid hr
    have HC' := Lib.hid hr'
    clear h h' hz hz' hr hr' hx hm hm' h1 h2
    go_enter Try.func40, Try.ntmps40
    go_wp2
    go_loopw [6, 25] (fun s i wr => ∃ k d q : Nat, k ≤ n ∧ i = .int .i64 k ∧ s = .int .i64 d ∧ wr = w.drewN q ∧ d = diffTo xs ys k ∧ d ≤ 32) (fun _ i _ => n - (intOf i).toNat)
    case atStart => exact ⟨0, 0, 0, Nat.zero_le _, rfl, rfl, rfl, rfl, by omega⟩
    case round =>
      obtain ⟨k, d, q, hk, rfl, rfl, rfl, hd', hd32⟩ := hrel
      have HD := Lib.hid hd'
      clear hd'
      by_cases hlt : k < n
      · rcases HC.out with h0 | ⟨b, off, rfl, hc⟩
        · omega
        rcases HC'.out with h0 | ⟨b', off', rfl, hc'⟩
        · omega
        have hcell := hc k hlt
        have hcell' := hc' k hlt
        obtain ⟨x, hx⟩ : ∃ x, xs[k]?.getD false = x := ⟨_, rfl⟩
        obtain ⟨y, hy⟩ : ∃ y, ys[k]?.getD false = y := ⟨_, rfl⟩
        have HS := Lib.hid (show diffTo xs ys (k + 1) = d + (if (x != y) = true then 1 else 0) by unfold diffTo; rw [hx, hy, ← HD.out])
        have HL := Lib.hid (diffTo_le xs ys (k + 1))
        rw [hx] at hcell
        rw [hy] at hcell'
        clear hc hc' hx hy
        cases x <;> cases y
        all_goals
          go_wp2
          go_region
          go_wp2
          go_roundw
          case rel => exact ⟨k + 1, diffTo xs ys (k + 1), _, by omega, by go_num, by first | (rw [HS.out]; simp; done) | (rw [HS.out]; go_num), rfl, rfl, by have h2 := HL.out; omega⟩
          case measure => simp [intOf]; omega
      · obtain rfl : k = n := by omega
        subst_vars
        go_wp2
        go_ret2
        exact ⟨_, rfl, fv_flR _ _ _ _ _, Ext.drewN _ _⟩
  · rw [angleR_2 (by omega)] at hv
    simp only [Prod.mk.injEq] at hv
    obtain ⟨rfl, rfl⟩ := hv
    have hd : ((n' : Int) != (n : Int)) = true := by rw [bne_iff_ne]; omega
    clear h h' hz hz' hr hr' hx hm hm' hq h1 h2
    go_enter Try.func40, Try.ntmps40
    go_wp2
    go_ret2
    exact ⟨0, rfl, fv_zero32, Ext.refl _⟩
end Go.Proofs.Ytlfdljakcbfkaaa
