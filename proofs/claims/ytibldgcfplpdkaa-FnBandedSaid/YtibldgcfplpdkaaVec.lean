/- Vectors: what both sides answer of them: IsVector, l07Vector, sums of products, DotOf, NormOf. -/
import Derived.Test.YtibldgcfplpdkaaFar
import Derived.Test.YtibldgcfplpdkaaVep
import Derived.RegionTactic
import Derived.BigRegion
namespace Go.Proofs.Ytibldgcfplpdkaa
open Go.ChangeShapes Go.WideShapes Go.ChangeAt Go.RowKit Go.Proofs.Ytibldgcfplpdkaa.Flo
set_option linter.unusedVariables false
attribute [local go_sem] run_fl_add run_fl_sub run_fl_mul run_fl_quo run_conv run_store_float run_store_complex ext_sqrt
/-- a vector, as the document asks for one -/
def vecB (zs : List Nat) : Bool := decide (1 ≤ zs.length) && (decide (zs.length ≤ 32) && finB zs)
theorem vecB_0 {zs : List Nat} (h : zs.length = 0) : vecB zs = false := by unfold vecB; rw [decide_eq_false (by omega)]; rfl
theorem vecB_long {zs : List Nat} (h : 32 < zs.length) : vecB zs = false := by unfold vecB; rw [decide_eq_false (show ¬ zs.length ≤ 32 by omega)]; simp
theorem vecB_fin {zs : List Nat} (h1 : 1 ≤ zs.length) (h : zs.length ≤ 32) : vecB zs = finB zs := by unfold vecB; rw [decide_eq_true h1, decide_eq_true h]; rfl
structure VecOk (zs : List Nat) : Prop where
  lo : 1 ≤ zs.length
  hi : zs.length ≤ 32
  fin : finB zs = true
theorem vec_ok {zs : List Nat} (h : vecB zs = true) : VecOk zs := by
  unfold vecB at h
  simp only [Bool.and_eq_true, decide_eq_true_eq] at h
  exact ⟨h.1, h.2.1, h.2.2⟩
/-- the sum of the products, as a value -/
def dotV (xs ys : List Nat) : Option Nat := (xs.zip ys).foldl (fun s p => fop .add .f32 s (fop .mul .f32 (fv .f32 p.1) (fv .f32 p.2))) (some 0)
theorem dotV_step (xs ys : List Nat) (k : Nat) (h : k < xs.length) (h' : k < ys.length) : dotV (xs.take (k + 1)) (ys.take (k + 1)) = fop .add .f32 (dotV (xs.take k) (ys.take k)) (fop .mul .f32 (fv .f32 (xs[k]?.getD 0)) (fv .f32 (ys[k]?.getD 0))) := by
  unfold dotV
  rw [List.take_succ_eq_append_getElem h, List.take_succ_eq_append_getElem h', List.zip_append (by simp; omega), List.foldl_append]
  simp [h, h']
theorem nn_dot (zs : List Nat) : Nn (dotV zs zs) := by
  unfold dotV
  have go : ∀ (l : List Nat) (s : Option Nat), Nn s → Nn ((l.zip l).foldl (fun s p => fop .add .f32 s (fop .mul .f32 (fv .f32 p.1) (fv .f32 p.2))) s) := by
    intro l
    induction l with
    | nil => intro s h; exact h
    | cons x l ih =>
      intro s h
      rw [List.zip_cons_cons, List.foldl_cons]
      exact ih _ (h.add (Nn.sq _))
  refine go zs (some 0) ?_
  intro b hb
  cases hb
  have e : FloatKind.f32.decode 0 = .number false 0 (-149) := by kernel_rfl
  rw [e]; rfl
/-- a value that is told if it is finite -/
def tellV (v : Option Nat) : Option Nat × Bool := if finV v then (v, true) else (some 0, false)
theorem tellV_yes {v : Option Nat} (h : finV v = true) : tellV v = (v, true) := if_pos h
theorem tellV_no {v : Option Nat} (h : finV v = false) : tellV v = (some 0, false) := if_neg (by rw [h]; decide)
def dotOkB (xs ys : List Nat) : Bool := vecB xs && (vecB ys && decide (ys.length = xs.length))
def dotR (xs ys : List Nat) : Option Nat × Bool := if dotOkB xs ys then tellV (dotV xs ys) else (some 0, false)
theorem dotR_no {xs ys : List Nat} (h : dotOkB xs ys = false) : dotR xs ys = (some 0, false) := if_neg (by rw [h]; decide)
theorem dotR_yes {xs ys : List Nat} (h : dotOkB xs ys = true) : dotR xs ys = tellV (dotV xs ys) := if_pos h
def normR (zs : List Nat) : Option Nat × Bool := if vecB zs then (if finV (dotV zs zs) then (slim (fsq (wide (dotV zs zs))), true) else (some 0, false)) else (some 0, false)
/-- a float of this value and a Boolean are returned; some draws -/
def RetFV (v : Option Nat × Bool) (w : World) (e : Ending) (w' : World) : Prop := ∃ r, e = .returned (.tuple #[.float .f32 r, .bool v.2]) ∧ fv .f32 r = v.1 ∧ r < 4294967296 ∧ ∃ n, w' = w.drewN n
theorem RetFV.mk {v : Option Nat × Bool} {w : World} {r : Nat} {b : Bool} (n : Nat) (h : fv .f32 r = v.1) (hb : b = v.2) (hr : r < 4294967296) : RetFV v w (.returned (.tuple #[.float .f32 r, .bool b])) (w.drewN n) := ⟨r, by rw [hb], h, hr, n, rfl⟩
theorem RetFV.zero {v : Option Nat × Bool} {w : World} (n : Nat) (h : v = (some 0, false)) : RetFV v w (.returned (.tuple #[.float .f32 0, .bool false])) (w.drewN n) := by
  subst h; exact ⟨0, rfl, by kernel_rfl, by decide, n, rfl⟩
theorem c_impl_IsVector_q (a : Option Addr) (n cap : Nat) (zs : List Nat) (w : World) {r : Bool} (hr : vecB zs = r) (hm : n ≤ maxLen) (h : Reads w a n (flos zs)) (hb : ∀ z ∈ zs, z < 4294967296) :
    Calls Try.prog 123 #[.slice a n cap] w fun e w' => e = .returned (.bool r) ∧ ∃ q, w' = w.drewN q := by
  have hz := h.flo.1
  have HM := Lib.hid hm
  unfold maxLen at hm
  by_cases h0 : n = 0
  · have HR := Lib.hid (show r = false by rw [← hr]; exact vecB_0 (by omega))
    have g1 : ¬ (1 : Int) ≤ (n : Int) := by omega
    subst h0
    clear hr h hb hz
    go_enter Try.func123, Try.ntmps123
    go_wp2
    go_ret
    exact ⟨retB (by rw [HR.out]), 0, rfl⟩
  by_cases hl : 32 < n
  · have HR := Lib.hid (show r = false by rw [← hr]; exact vecB_long (by omega))
    have g1 : (1 : Int) ≤ (n : Int) := by omega
    have g2 : (32 : Int) < (n : Int) := by omega
    clear hr h hb hz
    go_enter Try.func123, Try.ntmps123
    go_wp2
    go_ret
    exact ⟨retB (by first | (rw [HR.out]; done) | (rw [HR.out]; rfl) | (rw [HR.out]; first | (simp; done) | (simp; omega))), 0, rfl⟩
  · have HR := Lib.hid (show finB zs = r by rw [← hr]; exact (vecB_fin (by omega) (by omega)).symm)
    have g1 : (1 : Int) ≤ (n : Int) := by omega
    have g2 : (n : Int) ≤ 32 := by omega
    have HB := Lib.hid hb
    have H := Lib.hid h
    clear hr h hb hz
    go_enter Try.func123, Try.ntmps123
    go_wp2_with (go_at_call 111; refine (c_impl_areFinite _ _ _ zs _ HR.out HM.out HB.out H.out).mono ?_; rintro e w' ⟨rfl, q, rfl⟩)
    go_ret
    exact ⟨rfl, _, rfl⟩
theorem c_spec_l07Vector (a : Option Addr) (n cap : Nat) (zs : List Nat) (w : World) {r : Bool} (hr : vecB zs = r) (hm : n ≤ maxLen) (h : Reads w a n (flos zs)) :
    Calls Try.prog 128 #[.slice a n cap] w fun e w' => e = .returned (.bool r) ∧ ∃ q, w' = w.drewN q := by
  have hz := h.flo.1
  have HM := Lib.hid hm
  unfold maxLen at hm
  by_cases h0 : n = 0
  · have HR := Lib.hid (show r = false by rw [← hr]; exact vecB_0 (by omega))
    have g1 : ¬ (1 : Int) ≤ (n : Int) := by omega
    subst h0
    clear hr h hz
    go_enter Try.func128, Try.ntmps128
    go_wp2
    go_ret
    exact ⟨retB (by rw [HR.out]), 0, rfl⟩
  by_cases hl : 32 < n
  · have HR := Lib.hid (show r = false by rw [← hr]; exact vecB_long (by omega))
    have g1 : (1 : Int) ≤ (n : Int) := by omega
    have g2 : (32 : Int) < (n : Int) := by omega
    clear hr h hz
    go_enter Try.func128, Try.ntmps128
    go_wp2
    go_ret
    exact ⟨retB (by first | (rw [HR.out]; done) | (rw [HR.out]; rfl) | (rw [HR.out]; first | (simp; done) | (simp; omega))), 0, rfl⟩
  · have HR := Lib.hid (show finB zs = r by rw [← hr]; exact (vecB_fin (by omega) (by omega)).symm)
    have g1 : (1 : Int) ≤ (n : Int) := by omega
    have g2 : (n : Int) ≤ 32 := by omega
    have H := Lib.hid h
    clear hr h hz
    go_enter Try.func128, Try.ntmps128
    go_wp2_with (go_at_call 224; refine (c_spec_l02Finite _ _ _ zs _ HR.out HM.out H.out).mono ?_; rintro e w' ⟨rfl, q, rfl⟩)
    go_ret
    exact ⟨rfl, _, rfl⟩
theorem c_impl_IsVector (a : Option Addr) (n cap : Nat) (zs : List Nat) (w : World) {r : Bool} (hr : vecB zs = r) (hm : n ≤ 1048576) (h : Reads w a n (flos zs)) (hb : ∀ z ∈ zs, z < 4294967296) :
    Calls Try.prog 123 #[.slice a n cap] w fun e w' => e = .returned (.bool r) ∧ Ext w w' :=
  (c_impl_IsVector_q a n cap zs w hr (by unfold maxLen; omega) h hb).mono (by rintro e w' ⟨rfl, q, rfl⟩; exact ⟨rfl, Ext.drewN _ _⟩)
set_option maxHeartbeats 1000000 in
theorem c_impl_DotNumbers (a a' : Option Addr) (n cap cap' : Nat) (xs ys : List Nat) (w : World) {v : Option Nat} (hv : dotV xs ys = v) (hl : n ≤ 256) (h : Reads w a n (flos xs)) (h' : Reads w a' n (flos ys)) :
    Calls Try.prog 279 #[.slice a n cap, .slice a' n cap'] w (RetFV (v, true) w) := by
  obtain ⟨hz, hr⟩ := h.flo
  obtain ⟨hz', hr'⟩ := h'.flo
  have HV := Lib.hid hv
  have HZ := Lib.hid hz
  have HZ' := Lib.hid hz'
  have HC := Lib.hid hr
  have HC' := Lib.hid hr'
  have hl' : (n : Int) ≤ 256 := by omega
  clear hv hz hz' hr hr' h h'
  go_enter Try.func279, Try.ntmps279
  go_wp2
  go_loopw [6, 21] (fun s i wr => ∃ (k q r : Nat), k ≤ n ∧ i = .int .i64 k ∧ wr = w.drewN q ∧ s = .float .f32 r ∧ fv .f32 r = dotV (xs.take k) (ys.take k) ∧ r < 4294967296) (fun _ i _ => n - (intOf i).toNat)
  case atStart => exact ⟨0, 0, 0, Nat.zero_le _, rfl, rfl, rfl, rfl, by decide⟩
  case round =>
    obtain ⟨k, q, r, hk, rfl, rfl, rfl, hv, hr⟩ := hrel
    have HVV := Lib.hid hv
    have HR := Lib.hid hr
    clear hv hr
    by_cases hlt : k < n
    · rcases HC.out with h0 | ⟨b, off, rfl, hc⟩
      · omega
      rcases HC'.out with h0 | ⟨b', off', rfl, hc'⟩
      · omega
      have hcell := hc k hlt
      have hcell' := hc' k hlt
      have hlt' : (k : Int) < (n : Int) := by omega
      have HS := Lib.hid (dotV_step xs ys k (by rw [HZ.out]; exact hlt) (by rw [HZ'.out]; exact hlt))
      clear hc hc'
      go_wp2
      go_roundw
      case rel => exact ⟨k + 1, _, _, by omega, by go_num, rfl, rfl, by rw [HS.out, fv_flR, fv_flR, HVV.out], flR_lt _ _ _ _ _⟩
      case measure => simp [intOf]; omega
    · obtain rfl : k = n := by omega
      go_wp2
      go_ret2
      exact RetFV.mk q (by rw [HVV.out, List.take_of_length_le (Nat.le_of_eq HZ.out), List.take_of_length_le (Nat.le_of_eq HZ'.out)]; exact HV.out) rfl HR.out
theorem c_impl_DotNumbers_no (a a' : Option Addr) (l l' cap cap' : Nat) (w : World) (hl : 256 < l ∨ l ≠ l') :
    Calls Try.prog 279 #[.slice a l cap, .slice a' l' cap'] w fun e w' => e = .returned (.tuple #[.float .f32 0, .bool false]) ∧ w = w' := by
  by_cases h : 256 < l
  · have h' : (256 : Int) < (l : Int) := by omega
    go_enter Try.func279, Try.ntmps279
    go_wp2
    go_ret2
    exact ⟨rfl, rfl⟩
  · have h' : ¬ (256 : Int) < (l : Int) := by omega
    have hd : ((l : Int) != (l' : Int)) = true := by rw [bne_iff_ne]; omega
    clear hl
    go_enter Try.func279, Try.ntmps279
    go_wp2
    go_ret2
    exact ⟨rfl, rfl⟩
set_option maxHeartbeats 1000000 in
theorem c_spec_l07Dot (a a' : Option Addr) (n cap cap' : Nat) (xs ys : List Nat) (w : World) {v : Option Nat} (hv : dotV xs ys = v) (hl : n ≤ 256) (h : Reads w a n (flos xs)) (h' : Reads w a' n (flos ys)) :
    Calls Try.prog 226 #[.slice a n cap, .slice a' n cap'] w fun e w' => ∃ r, e = .returned (.float .f32 r) ∧ fv .f32 r = v ∧ r < 4294967296 ∧ ∃ q, w' = w.drewN q := by
  obtain ⟨hz, hr⟩ := h.flo
  obtain ⟨hz', hr'⟩ := h'.flo
  have HV := Lib.hid hv
  have HZ := Lib.hid hz
  have HZ' := Lib.hid hz'
  have HC := Lib.hid hr
  have HC' := Lib.hid hr'
  have hl' : (n : Int) ≤ 256 := by omega
  clear hv hz hz' hr hr' h h'
  go_enter Try.func226, Try.ntmps226
  go_wp2
  go_loopw [5, 9] (fun s i wr => ∃ (k q r : Nat), k ≤ n ∧ i = .int .i64 k ∧ wr = w.drewN q ∧ s = .float .f32 r ∧ fv .f32 r = dotV (xs.take k) (ys.take k) ∧ r < 4294967296) (fun _ i _ => n - (intOf i).toNat)
  case atStart => exact ⟨0, 0, 0, Nat.zero_le _, rfl, rfl, rfl, rfl, by decide⟩
  case round =>
    obtain ⟨k, q, r, hk, rfl, rfl, rfl, hv, hr⟩ := hrel
    have HVV := Lib.hid hv
    have HR := Lib.hid hr
    clear hv hr
    by_cases hlt : k < n
    · rcases HC.out with h0 | ⟨b, off, rfl, hc⟩
      · omega
      rcases HC'.out with h0 | ⟨b', off', rfl, hc'⟩
      · omega
      have hcell := hc k hlt
      have hcell' := hc' k hlt
      have hlt' : (k : Int) < (n : Int) := by omega
      have HS := Lib.hid (dotV_step xs ys k (by rw [HZ.out]; exact hlt) (by rw [HZ'.out]; exact hlt))
      clear hc hc'
      go_wp2
      go_region
      go_wp2
      go_roundw
      case rel => exact ⟨k + 1, _, _, by omega, by go_num, rfl, rfl, by rw [HS.out, fv_flR, fv_flR, HVV.out], flR_lt _ _ _ _ _⟩
      case measure => simp [intOf]; omega
    · obtain rfl : k = n := by omega
      go_wp2
      go_ret
      exact ⟨r, rfl, (by rw [HVV.out, List.take_of_length_le (Nat.le_of_eq HZ.out), List.take_of_length_le (Nat.le_of_eq HZ'.out)]; exact HV.out), HR.out, q, rfl⟩
theorem c_impl_numberIf (x : Nat) (w : World) {v : Option Nat} {p : Option Nat × Bool} (hf : fv .f32 x = v) (hp : tellV v = p) (hx : x < 4294967296) : Calls Try.prog 280 #[.float .f32 x] w (RetFV p w) := by
  subst hf hp
  cases h : isFin .f32 x
  · have H := Lib.hid h
    have H2 := Lib.hid (tellV_no (v := fv .f32 x) (by rw [finV_fv]; exact h))
    have HX := Lib.hid hx
    clear h hx
    go_enter Try.func280, Try.ntmps280
    go_wp2_with (go_at_call 112; refine (c_impl_IsFinite_b x _ HX.out H.out).mono ?_; rintro e w' ⟨rfl, q, rfl⟩)
    go_ret2
    exact RetFV.zero _ H2.out
  · have H := Lib.hid h
    have H2 := Lib.hid (tellV_yes (v := fv .f32 x) (by rw [finV_fv]; exact h))
    have HX := Lib.hid hx
    clear h hx
    go_enter Try.func280, Try.ntmps280
    go_wp2_with (go_at_call 112; refine (c_impl_IsFinite_b x _ HX.out H.out).mono ?_; rintro e w' ⟨rfl, q, rfl⟩)
    go_ret2
    exact RetFV.mk _ (by rw [H2.out]) (by rw [H2.out]) HX.out
theorem c_spec_l02Number_t (x : Nat) (w : World) {v : Option Nat} {p : Option Nat × Bool} (hf : fv .f32 x = v) (hp : tellV v = p) (hx : x < 4294967296) : Calls Try.prog 174 #[.float .f32 x] w (RetFV p w) := by
  subst hf hp
  cases h : isFin .f32 x
  · have H := Lib.hid h
    have H2 := Lib.hid (tellV_no (v := fv .f32 x) (by rw [finV_fv]; exact h))
    have HX := Lib.hid hx
    clear h hx
    go_enter Try.func174, Try.ntmps174
    go_wp2_with (go_at_call 179; refine (c_spec_l01Finite_b x _ H.out).mono ?_; rintro e w' ⟨rfl, q, rfl⟩)
    go_ret2
    exact RetFV.zero _ H2.out
  · have H := Lib.hid h
    have H2 := Lib.hid (tellV_yes (v := fv .f32 x) (by rw [finV_fv]; exact h))
    have HX := Lib.hid hx
    clear h hx
    go_enter Try.func174, Try.ntmps174
    go_wp2_with (go_at_call 179; refine (c_spec_l01Finite_b x _ H.out).mono ?_; rintro e w' ⟨rfl, q, rfl⟩)
    go_ret2
    exact RetFV.mk _ (by rw [H2.out]) (by rw [H2.out]) HX.out
theorem fv_rootV (w w' w'' : World) (x : Nat) : fv .f32 (convR w'' .f64 (sqR w' (convR w .f32 x .f64)) .f32) = slim (fsq (wide (fv .f32 x))) := by
  have h := root_ok x
  rw [fv_slimR, fv_sqR, fv_wideR]
  rw [fv_sqR, fv_wideR]; exact h
theorem rootR_lt (w w' w'' : World) (x : Nat) : convR w'' .f64 (sqR w' (convR w .f32 x .f64)) .f32 < 4294967296 := convR_lt _ _ _ _ (sqR_lt _ _)
theorem c_impl_RootNumber_v (x : Nat) (w : World) {v : Option Nat} (hf : slim (fsq (wide (fv .f32 x))) = v) : Calls Try.prog 223 #[.float .f32 x] w fun e w' => ∃ r, e = .returned (.float .f32 r) ∧ fv .f32 r = v ∧ r < 4294967296 ∧ ∃ n, w' = w.drewN n := by
  subst hf
  go_enter Try.func223, Try.ntmps223
  go_wp2
  go_ret
  exact ⟨_, rfl, fv_rootV _ _ _ x, rootR_lt _ _ _ _, _, rfl⟩
theorem c_spec_l01Sqrt_v (x : Nat) (w : World) {v : Option Nat} (hf : slim (fsq (wide (fv .f32 x))) = v) : Calls Try.prog 225 #[.float .f32 x] w fun e w' => ∃ r, e = .returned (.float .f32 r) ∧ fv .f32 r = v ∧ r < 4294967296 ∧ ∃ n, w' = w.drewN n := by
  subst hf
  go_enter Try.func225, Try.ntmps225
  go_wp2
  go_ret
  exact ⟨_, rfl, fv_rootV _ _ _ x, rootR_lt _ _ _ _, _, rfl⟩
set_option maxHeartbeats 1000000 in
theorem c_impl_DotOf_q (a a' : Option Addr) (n n' cap cap' : Nat) (xs ys : List Nat) (w : World) {p : Option Nat × Bool} (hv : dotR xs ys = p) (hm : n ≤ maxLen) (h : Reads w a n (flos xs)) (hm' : n' ≤ maxLen) (h' : Reads w a' n' (flos ys)) (hb : ∀ z ∈ xs, z < 4294967296) (hb' : ∀ z ∈ ys, z < 4294967296) :
    Calls Try.prog 222 #[.slice a n cap, .slice a' n' cap'] w (RetFV p w) := by
  have hz := h.flo.1
  have hz' := h'.flo.1
  have HM := Lib.hid hm
  have HM' := Lib.hid hm'
  have H := Lib.hid h
  have H' := Lib.hid h'
  have HB := Lib.hid hb
  have HB' := Lib.hid hb'
  clear hb hb' h h'
  by_cases hq : 256 < n ∨ n ≠ n'
  · have HP := Lib.hid (show p = (some 0, false) by
      rw [← hv]; refine dotR_no ?_; unfold dotOkB
      rcases hq with hq | hq
      · rw [vecB_long (zs := xs) (by omega)]; rfl
      · rw [decide_eq_false (show ¬ ys.length = xs.length by omega)]; simp)
    have HQ := Lib.hid hq
    clear hv hq hz hz' hm hm'
    go_enter Try.func222, Try.ntmps222
    go_wp2_with fail
    refine (c_impl_DotNumbers_no _ _ _ _ _ _ _ HQ.out).mono ?_; rintro e w' ⟨rfl, rfl⟩
    go_wp2
    go_ret2
    exact RetFV.zero 0 HP.out
  · obtain rfl : n = n' := by omega
    have HL := Lib.hid (show n ≤ 256 by omega)
    have HE := Lib.hid (show ys.length = xs.length by omega)
    clear hz hz' hm hm' hq
    cases hx : vecB xs
    · have HX := Lib.hid hx
      have HP := Lib.hid (show p = (some 0, false) by rw [← hv]; refine dotR_no ?_; unfold dotOkB; rw [hx]; rfl)
      clear hv hx
      go_enter Try.func222, Try.ntmps222
      go_wp2_with fail
      refine (c_impl_DotNumbers _ _ _ _ _ xs ys _ rfl HL.out H.out H'.out).mono ?_; rintro e w' ⟨r, rfl, hr, hlt, q, rfl⟩
      have HR := Lib.hid hr
      clear hr hlt
      go_wp2_with fail
      refine (c_impl_IsVector_q _ _ _ xs _ HX.out HM.out (H.out.on (Ext.drewN _ _)) HB.out).mono ?_; rintro e w' ⟨rfl, q2, rfl⟩
      go_wp2
      go_ret2
      exact RetFV.zero _ HP.out
    cases hy : vecB ys
    · have HX := Lib.hid hx
      have HY := Lib.hid hy
      have HP := Lib.hid (show p = (some 0, false) by rw [← hv]; refine dotR_no ?_; unfold dotOkB; rw [hx, hy]; rfl)
      clear hv hx hy
      go_enter Try.func222, Try.ntmps222
      go_wp2_with fail
      refine (c_impl_DotNumbers _ _ _ _ _ xs ys _ rfl HL.out H.out H'.out).mono ?_; rintro e w' ⟨r, rfl, hr, hlt, q, rfl⟩
      have HR := Lib.hid hr
      clear hr hlt
      go_wp2_with fail
      refine (c_impl_IsVector_q _ _ _ xs _ HX.out HM.out (H.out.on (Ext.drewN _ _)) HB.out).mono ?_; rintro e w' ⟨rfl, q2, rfl⟩
      go_wp2_with fail
      refine (c_impl_IsVector_q _ _ _ ys _ HY.out HM.out (H'.out.on (Ext.drewN _ _)) HB'.out).mono ?_; rintro e w' ⟨rfl, q3, rfl⟩
      go_wp2
      go_ret2
      exact RetFV.zero _ HP.out
    · have HX := Lib.hid hx
      have HY := Lib.hid hy
      have HP := Lib.hid (show tellV (dotV xs ys) = p by rw [← hv]; refine (dotR_yes ?_).symm; unfold dotOkB; rw [hx, hy, decide_eq_true HE.out]; rfl)
      clear hv hx hy
      go_enter Try.func222, Try.ntmps222
      go_wp2_with fail
      refine (c_impl_DotNumbers _ _ _ _ _ xs ys _ rfl HL.out H.out H'.out).mono ?_; rintro e w' ⟨r, rfl, hr, hlt, q, rfl⟩
      have HR := Lib.hid hr
      have HLT := Lib.hid hlt
      clear hr hlt
      go_wp2_with fail
      refine (c_impl_IsVector_q _ _ _ xs _ HX.out HM.out (H.out.on (Ext.drewN _ _)) HB.out).mono ?_; rintro e w' ⟨rfl, q2, rfl⟩
      go_wp2_with fail
      refine (c_impl_IsVector_q _ _ _ ys _ HY.out HM.out (H'.out.on (Ext.drewN _ _)) HB'.out).mono ?_; rintro e w' ⟨rfl, q3, rfl⟩
      go_wp2_with fail
      refine (c_impl_numberIf r _ HR.out HP.out HLT.out).mono ?_; rintro e w' ⟨r2, rfl, hr2, hlt2, q4, rfl⟩
      have HR2 := Lib.hid hr2
      have HLT2 := Lib.hid hlt2
      clear hr2 hlt2
      go_wp2
      go_ret2
      exact RetFV.mk _ HR2.out rfl HLT2.out
theorem RetFV.to {v : Option Nat} {rb : Bool} {w : World} {e : Ending} {w' : World} (h : RetFV (v, rb) w e w') : ∃ f, e = .returned (.tuple #[.float .f32 f, .bool rb]) ∧ fv .f32 f = v ∧ Ext w w' := by
  obtain ⟨r, rfl, h1, _, n, rfl⟩ := h
  exact ⟨r, rfl, h1, Ext.drewN _ _⟩
theorem maxLen_of {n : Nat} (h : n ≤ 1048576) : n ≤ maxLen := by unfold maxLen; omega
theorem c_impl_DotOf (a : Option Addr) (n cap : Nat) (xs : List Nat) (a' : Option Addr) (n' cap' : Nat) (ys : List Nat) (w : World) {v : Option Nat} {rb : Bool} (hv : dotR xs ys = (v, rb)) (hm : n ≤ 1048576) (h : Reads w a n (flos xs)) (hm' : n' ≤ 1048576) (h' : Reads w a' n' (flos ys)) (hb : ∀ z ∈ xs, z < 4294967296) (hb' : ∀ z ∈ ys, z < 4294967296) :
    Calls Try.prog 222 #[.slice a n cap, .slice a' n' cap'] w fun e w' => ∃ f, e = .returned (.tuple #[.float .f32 f, .bool rb]) ∧ fv .f32 f = v ∧ Ext w w' :=
  (c_impl_DotOf_q a a' n n' cap cap' xs ys w hv (maxLen_of hm) h (maxLen_of hm') h' hb hb').mono fun _ _ h => h.to
theorem normR_no {zs : List Nat} (h : vecB zs = false) : normR zs = (some 0, false) := if_neg (by rw [h]; decide)
theorem normR_bad {zs : List Nat} (h : finV (dotV zs zs) = false) : normR zs = (some 0, false) := by
  unfold normR; rw [h]; split <;> rfl
theorem normR_yes {zs : List Nat} (h : vecB zs = true) (h2 : finV (dotV zs zs) = true) : normR zs = (slim (fsq (wide (dotV zs zs))), true) := by
  unfold normR; rw [h, h2]; rfl
theorem dotR_self {zs : List Nat} (h : vecB zs = true) : dotR zs zs = tellV (dotV zs zs) := dotR_yes (by unfold dotOkB; rw [h, decide_eq_true rfl]; rfl)
theorem dotR_self_no {zs : List Nat} (h : vecB zs = false) : dotR zs zs = (some 0, false) := dotR_no (by unfold dotOkB; rw [h]; rfl)
/-- what NormOf makes of DotOf's answer -/
theorem norm_of (zs : List Nat) : normR zs = (slim (fsq (wide (dotR zs zs).1)), (dotR zs zs).2) := by
  cases h : vecB zs
  · rw [normR_no h, dotR_self_no h]; show _ = (slim (fsq (wide (some 0))), false); rw [root_0]
  · rw [dotR_self h]
    cases h2 : finV (dotV zs zs)
    · rw [normR_bad h2, tellV_no h2]; show _ = (slim (fsq (wide (some 0))), false); rw [root_0]
    · rw [normR_yes h h2, tellV_yes h2]
/-- .. and of the root's own test -/
theorem norm_tell {zs : List Nat} (h : vecB zs = true) : tellV (slim (fsq (wide (dotV zs zs)))) = normR zs := by
  cases h2 : finV (dotV zs zs)
  · rw [normR_bad h2]; exact tellV_no (by rw [root_fin (nn_dot zs)]; exact h2)
  · rw [normR_yes h h2]; exact tellV_yes (by rw [root_fin (nn_dot zs)]; exact h2)
set_option maxHeartbeats 1000000 in
theorem c_impl_NormOf (a : Option Addr) (n cap : Nat) (zs : List Nat) (w : World) {v : Option Nat} {rb : Bool} (hv : normR zs = (v, rb)) (hm : n ≤ 1048576) (h : Reads w a n (flos zs)) (hb : ∀ z ∈ zs, z < 4294967296) :
    Calls Try.prog 125 #[.slice a n cap] w fun e w' => ∃ f, e = .returned (.tuple #[.float .f32 f, .bool rb]) ∧ fv .f32 f = v ∧ Ext w w' := by
  have H := Lib.hid h
  have HM := Lib.hid (maxLen_of hm)
  have HB := Lib.hid hb
  obtain ⟨p, hp⟩ : ∃ p, dotR zs zs = p := ⟨_, rfl⟩
  have hno := norm_of zs
  rw [hv, hp] at hno
  obtain ⟨pv, pb⟩ := p
  simp only [Prod.mk.injEq] at hno
  obtain ⟨rfl, rfl⟩ := hno
  have HP := Lib.hid hp
  clear hv hp h hb
  go_enter Try.func125, Try.ntmps125
  go_wp2_with fail
  refine (c_impl_DotOf_q _ _ _ _ _ _ zs zs _ HP.out HM.out H.out HM.out H.out HB.out HB.out).mono ?_; rintro e w' ⟨r, rfl, hr, hlt, q, rfl⟩
  have HR := Lib.hid hr
  clear hr hlt
  go_wp2_with fail
  refine (c_impl_RootNumber_v r _ (by rw [HR.out])).mono ?_; rintro e w' ⟨r2, rfl, hr2, hlt2, q2, rfl⟩
  have HR2 := Lib.hid hr2
  clear hr2 hlt2
  go_wp2
  go_ret2
  exact ⟨_, rfl, HR2.out, Ext.drewN _ _⟩
set_option maxHeartbeats 1000000 in
theorem c_spec_NormOf (a : Option Addr) (n cap : Nat) (zs : List Nat) (w : World) {v : Option Nat} {rb : Bool} (hv : normR zs = (v, rb)) (hm : n ≤ 1048576) (h : Reads w a n (flos zs)) (hb : ∀ z ∈ zs, z < 4294967296) :
    Calls Try.prog 129 #[.slice a n cap] w fun e w' => ∃ f, e = .returned (.tuple #[.float .f32 f, .bool rb]) ∧ fv .f32 f = v ∧ Ext w w' := by
  have hz := h.flo.1
  have H := Lib.hid h
  have HM := Lib.hid (maxLen_of hm)
  clear h hb
  cases hx : vecB zs
  · have HX := Lib.hid hx
    have h2 := hv
    rw [normR_no hx] at h2
    simp only [Prod.mk.injEq] at h2
    obtain ⟨rfl, rfl⟩ := h2
    have H0 := Lib.hid (show fv .f32 0 = some 0 by kernel_rfl)
    clear hv hx hz hm
    go_enter Try.func129, Try.ntmps129
    go_wp2_with fail
    refine (c_spec_l07Vector _ _ _ zs _ HX.out HM.out H.out).mono ?_; rintro e w' ⟨rfl, q2, rfl⟩
    go_wp2
    go_ret2
    exact ⟨_, rfl, H0.out, Ext.drewN _ _⟩
  · have HX := Lib.hid hx
    have HT := Lib.hid (show tellV (slim (fsq (wide (dotV zs zs)))) = (v, rb) by rw [norm_tell hx]; exact hv)
    have HL := Lib.hid (show n ≤ 256 by have := (vec_ok hx).hi; omega)
    clear hv hx hz hm
    go_enter Try.func129, Try.ntmps129
    go_wp2_with fail
    refine (c_spec_l07Vector _ _ _ zs _ HX.out HM.out H.out).mono ?_; rintro e w' ⟨rfl, q2, rfl⟩
    go_wp2_with fail
    refine (c_spec_l07Dot _ _ _ _ _ zs zs _ rfl HL.out (H.out.on (Ext.drewN _ _)) (H.out.on (Ext.drewN _ _))).mono ?_; rintro e w' ⟨r, rfl, hr, hlt, q, rfl⟩
    have HR := Lib.hid hr
    clear hr hlt
    go_wp2_with fail
    refine (c_spec_l01Sqrt_v r _ rfl).mono ?_; rintro e w' ⟨r2, rfl, hr2, hlt2, q3, rfl⟩
    have HR2 := Lib.hid (show fv .f32 r2 = slim (fsq (wide (dotV zs zs))) by rw [hr2, HR.out])
    have HLT := Lib.hid hlt2
    clear hr2 hlt2
    go_wp2_with fail
    refine (c_spec_l02Number_t r2 _ HR2.out HT.out HLT.out).mono ?_; rintro e w' ⟨r3, rfl, hr3, hlt3, q4, rfl⟩
    have HR3 := Lib.hid hr3
    clear hr3 hlt3
    go_wp2
    go_ret2
    exact ⟨_, rfl, HR3.out, Ext.drewN _ _⟩
end Go.Proofs.Ytibldgcfplpdkaa
