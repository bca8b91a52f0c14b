/- SignRow, SignSketch: what both sides answer. -/
import Derived.Test.YtlfdljakcbfkaaaVec
import Derived.Test.YtlfdljakcbfkaaaSca
import Derived.Test.YtlfdljakcbfkaaaKey
import Derived.Deep.RegionHeld3
import Derived.Deep.DeepCutAuto
import Derived.Deep.LoopGhost
namespace Go.Proofs.Ytlfdljakcbfkaaa
open Go.ChangeShapes Go.WideShapes Go.ChangeAt Go.RowKit Go.Proofs.Ytlfdljakcbfkaaa.Flo
set_option linter.unusedVariables false
attribute [local go_sem] run_fl_add run_fl_sub run_fl_mul run_fl_quo run_conv run_store_float run_store_complex
/-- the signs of the first indices, as floats -/
def signsL (n : Nat) (salt : Int) : List Nat := (List.range n).map fun i : Nat => floatOfInt .f32 (signV (i : Int) salt)
theorem signsL_length (n : Nat) (salt : Int) : (signsL n salt).length = n := by simp [signsL]
theorem range_get (f : Nat → Nat) (n i : Nat) (h : i < n) : ((List.range n).map f)[i]?.getD 0 = f i := by simp [h]
theorem signsL_get (n : Nat) (salt : Int) (i : Nat) (h : i < n) : (signsL n salt)[i]?.getD 0 = floatOfInt .f32 (signV (i : Int) salt) := range_get (fun i : Nat => floatOfInt .f32 (signV (i : Int) salt)) n i h
theorem signV_is (k s : Int) : signV k s = 1 ∨ signV k s = -1 ∨ signV k s = 0 := by
  unfold signV; split
  · split
    · exact .inl rfl
    · exact .inr (.inl rfl)
  · exact .inr (.inr rfl)
theorem sign_fin (k s : Int) : isFin .f32 (floatOfInt .f32 (signV k s)) = true := by
  rcases signV_is k s with h | h | h <;> rw [h] <;> kernel_rfl
theorem sign_32 (k s : Int) : floatOfInt .f32 (signV k s) < 4294967296 := by
  rcases signV_is k s with h | h | h <;> rw [h]
  · have e : floatOfInt .f32 1 = 1065353216 := by kernel_rfl
    rw [e]; decide
  · have e : floatOfInt .f32 (-1) = 3212836864 := by kernel_rfl
    rw [e]; decide
  · have e : floatOfInt .f32 0 = 0 := by kernel_rfl
    rw [e]; decide
theorem signsL_vec {n : Nat} (salt : Int) (h1 : 1 ≤ n) (h2 : n ≤ 32) : vecB (signsL n salt) = true := by
  rw [vecB_fin (by rw [signsL_length]; exact h1) (by rw [signsL_length]; exact h2)]
  refine finB_mk fun i hi => ?_
  rw [signsL_length] at hi
  rw [signsL_get n salt i hi]
  exact sign_fin _ _
theorem signsL_32 (n : Nat) (salt : Int) : ∀ z ∈ signsL n salt, z < 4294967296 := by
  intro z hz
  simp only [signsL, List.mem_map, List.mem_range] at hz
  obtain ⟨i, _, rfl⟩ := hz
  exact sign_32 _ _
theorem keyB_small {k : Nat} (h : k < 4294967296) : keyB (k : Int) = true := by
  unfold keyB; simp; omega
/-- a sum with signs -/
def srowV (zs : List Nat) (salt : Int) : Option Nat := dotV zs (signsL zs.length salt)
def signRowR (zs : List Nat) (salt : Int) : Option Nat × Bool := if vecB zs && keyB salt then tellV (srowV zs salt) else (some 0, false)
theorem signRowR_1 {zs : List Nat} {salt : Int} (h : vecB zs = false) : signRowR zs salt = (some 0, false) := if_neg (by rw [h]; simp)
theorem signRowR_2 {zs : List Nat} {salt : Int} (h : keyB salt = false) : signRowR zs salt = (some 0, false) := if_neg (by rw [h, Bool.and_false]; decide)
theorem signRowR_3 {zs : List Nat} {salt : Int} (h : vecB zs = true) (h2 : keyB salt = true) : signRowR zs salt = tellV (srowV zs salt) := if_pos (by rw [h, h2]; rfl)
theorem signRow_dot {zs : List Nat} {salt : Int} (h : vecB zs = true) (h2 : keyB salt = true) : dotR zs (signsL zs.length salt) = signRowR zs salt := by
  have ok := vec_ok h
  rw [signRowR_3 h h2]
  exact dotR_yes (by unfold dotOkB; rw [h, signsL_vec salt ok.lo ok.hi, decide_eq_true (signsL_length _ _)]; rfl)
/-- a float of this value and a Boolean are returned; memory may be made -/
def RetFE (v : Option Nat × Bool) (w : World) (e : Ending) (w' : World) : Prop := ∃ r, e = .returned (.tuple #[.float .f32 r, .bool v.2]) ∧ fv .f32 r = v.1 ∧ r < 4294967296 ∧ Ext w w'
theorem RetFV.ext {v : Option Nat × Bool} {w : World} {e : Ending} {w' : World} (h : RetFV v w e w') : RetFE v w e w' := by
  obtain ⟨r, rfl, h1, h2, n, rfl⟩ := h
  exact ⟨r, rfl, h1, h2, Ext.drewN _ _⟩
theorem RetFE.to {v : Option Nat} {rb : Bool} {w : World} {e : Ending} {w' : World} (h : RetFE (v, rb) w e w') : ∃ f, e = .returned (.tuple #[.float .f32 f, .bool rb]) ∧ fv .f32 f = v ∧ Ext w w' := by
  obtain ⟨r, rfl, h1, _, x⟩ := h
  exact ⟨r, rfl, h1, x⟩
theorem c_impl_SignOf_g (key salt v : Int) (w : World) (hk : keyB key = true) (hs : keyB salt = true) (hv : signV key salt = v) : Calls Try.prog 108 #[.int .i64 key, .int .i64 salt] w fun e w' => e = .returned (.tuple #[.int .i64 v, .bool true]) ∧ w = w' := by
  have := c_impl_SignOf key salt w
  rw [hk, hs, hv] at this
  exact this
theorem c_spec_l02Sign_g (key salt v : Int) (w : World) (hk : keyB key = true) (hs : keyB salt = true) (hv : signV key salt = v) : Calls Try.prog 107 #[.int .i64 key, .int .i64 salt] w fun e w' => e = .returned (.int .i64 v) ∧ w = w' := by
  have := c_spec_l02Sign key salt w hk hs
  rw [hv] at this
  exact this
theorem c_impl_IsKey_g (k : Int) (w : World) {b : Bool} (h : keyB k = b) : Calls Try.prog 74 #[.int .i64 k] w fun e w' => e = .returned (.bool b) ∧ w = w' := by
  subst h; exact c_impl_IsKey k w
theorem c_spec_l02Key_g (k : Int) (w : World) {b : Bool} (h : keyB k = b) : Calls Try.prog 72 #[.int .i64 k] w fun e w' => e = .returned (.bool b) ∧ w = w' := by
  subst h; exact c_spec_l02Key k w
set_option maxHeartbeats 2000000 in
theorem c_impl_signsOf (n : Nat) (salt : Int) (w : World) (hn : n ≤ 32) (hs : keyB salt = true) :
    Calls Try.prog 75 #[.int .i64 n, .int .i64 salt] w (RetS 26 n (flos (signsL n salt)) w) := by
  have hmk := run_make_row' (P := Try.prog) 22 26 (.float .f32 0) 4 Try.underlying22 info_f32 rfl .i64 .i64 n (by omega) (by omega)
  have HS := Lib.hid hs
  have hn' : (n : Int) ≤ 32 := by omega
  clear hs
  go_enter Try.func75, Try.ntmps75
  go_wp2
  go_loopw [13] (fun i wr => ∃ k : Nat, k ≤ n ∧ i = .int .i64 k ∧ wr.rowIs w.heap.size 26 n (fillFG (signsL n salt) k) ∧ Ext w wr) (fun i _ => n - (intOf i).toNat)
  case atStart => exact ⟨0, Nat.zero_le _, rfl, (World.rowIs_made _ _ _ _).congr fun i _ => rfl, Ext.alloc _ _⟩
  case round =>
    obtain ⟨k, hk, rfl, hrow, hext⟩ := hrel
    by_cases hlt : k < n
    · obtain ⟨sv, hsv⟩ : ∃ sv, signV (k : Int) salt = sv := ⟨_, rfl⟩
      have HSV := Lib.hid hsv
      have HK := Lib.hid (keyB_small (k := k) (by omega))
      have hcur := hrow.cell hlt
      have hfro := hrow.frozen k
      have HST := Lib.hid (show (wr.setCell ⟨w.heap.size, k, none⟩ (.float .f32 (floatOfInt .f32 sv))).rowIs w.heap.size 26 n (fillFG (signsL n salt) (k + 1)) by
        have := fillFG_step (signsL n salt) k hrow
        rw [signsL_get n salt k hlt, hsv] at this
        exact this)
      have HE := Lib.hid (show Ext w (wr.setCell ⟨w.heap.size, k, none⟩ (.float .f32 (floatOfInt .f32 sv))) from Below.setCell hext (Nat.le_refl _) _)
      clear hrow hext hsv
      go_wp2_with (go_at_call 108; refine (c_impl_SignOf_g (k : Int) salt sv _ HK.out HS.out HSV.out).mono ?_; rintro e w' ⟨rfl, rfl⟩)
      go_roundw
      case rel => exact ⟨k + 1, by omega, by go_num, HST.out, HE.out⟩
      case measure => simp [intOf]; omega
    · obtain rfl : k = n := by omega
      have HR := Lib.hid hrow
      have HE := Lib.hid hext
      clear hrow hext
      go_wp2
      go_ret
      exact ⟨_, _, rfl, own_made (by rw [flos_length, signsL_length]) (Nat.le_refl _) HR.out (fun i hi => by rw [flos_get _ i (by rw [signsL_length]; exact hi)]; unfold fillFG; rw [if_pos hi]), HE.out⟩
set_option maxHeartbeats 2000000 in
theorem c_impl_SignRow_q (a : Option Addr) (n cap : Nat) (zs : List Nat) (salt : Int) (w : World) {p : Option Nat × Bool} (hv : signRowR zs salt = p) (hm : n ≤ maxLen) (h : Reads w a n (flos zs)) (hb : ∀ z ∈ zs, z < 4294967296) :
    Calls Try.prog 25 #[.slice a n cap, .int .i64 salt] w (RetFE p w) := by
  have hz := h.flo.1
  have H := Lib.hid h
  have HM := Lib.hid hm
  have HB := Lib.hid hb
  clear h hb
  cases hx : vecB zs
  · have HX := Lib.hid hx
    have HP := Lib.hid (show p = (some 0, false) by rw [← hv]; exact signRowR_1 hx)
    clear hv hx hz hm
    go_enter Try.func25, Try.ntmps25
    go_wp2_with fail
    refine (c_impl_IsVector_q _ _ _ zs _ HX.out HM.out H.out HB.out).mono ?_; rintro e w' ⟨rfl, q2, rfl⟩
    go_wp2
    go_ret2
    exact (RetFV.zero _ HP.out).ext
  cases hs : keyB salt
  · have HX := Lib.hid hx
    have HS := Lib.hid hs
    have HP := Lib.hid (show p = (some 0, false) by rw [← hv]; exact signRowR_2 hs)
    clear hv hx hz hm hs
    go_enter Try.func25, Try.ntmps25
    go_wp2_with fail
    refine (c_impl_IsVector_q _ _ _ zs _ HX.out HM.out H.out HB.out).mono ?_; rintro e w' ⟨rfl, q2, rfl⟩
    go_wp2_with fail
    refine (c_impl_IsKey_g salt _ HS.out).mono ?_; rintro e w' ⟨rfl, rfl⟩
    go_wp2
    go_ret2
    exact (RetFV.zero _ HP.out).ext
  · have HX := Lib.hid hx
    have HS := Lib.hid hs
    subst hz
    have HP := Lib.hid (show dotR zs (signsL zs.length salt) = p by rw [← hv]; exact signRow_dot hx hs)
    have HL := Lib.hid (vec_ok hx).hi
    have HI := Lib.hid (show zs.length ≤ maxLen from hm)
    unfold maxLen at hm
    clear hv hx hs
    go_enter Try.func25, Try.ntmps25
    go_wp2_with fail
    refine (c_impl_IsVector_q _ _ _ zs _ HX.out HM.out H.out HB.out).mono ?_; rintro e w' ⟨rfl, q2, rfl⟩
    go_wp2_with fail
    refine (c_impl_IsKey_g salt _ HS.out).mono ?_; rintro e w' ⟨rfl, rfl⟩
    go_wp2_with fail
    refine (c_impl_signsOf zs.length salt _ HL.out HS.out).mono ?_; rintro e w3 ⟨a3, c3, rfl, o3, x3⟩
    have O3 := Lib.hid o3
    have X3 := Lib.hid ((Ext.drewN w q2).trans x3)
    clear o3 x3
    go_wp2_with fail
    refine (c_impl_DotOf_q _ _ _ _ _ _ zs (signsL zs.length salt) _ HP.out HI.out (H.out.on X3.out) HI.out O3.out.reads HB.out (signsL_32 _ _)).mono ?_; rintro e w4 ⟨r, rfl, hr, hlt, q4, rfl⟩
    have HR := Lib.hid hr
    have HLT := Lib.hid hlt
    clear hr hlt
    go_wp2
    go_ret2
    exact ⟨r, rfl, HR.out, HLT.out, X3.out.trans (Ext.drewN _ _)⟩
set_option maxHeartbeats 2000000 in
theorem c_spec_l07Row (a : Option Addr) (n cap : Nat) (zs : List Nat) (salt : Int) (w : World) {v : Option Nat} (hv : srowV zs salt = v) (hl : n ≤ 256) (hs : keyB salt = true) (h : Reads w a n (flos zs)) :
    Calls Try.prog 73 #[.slice a n cap, .int .i64 salt] w fun e w' => ∃ r, e = .returned (.float .f32 r) ∧ fv .f32 r = v ∧ r < 4294967296 ∧ ∃ q, w' = w.drewN q := by
  obtain ⟨hz, hr⟩ := h.flo
  subst hz
  have HV := Lib.hid hv
  have HC := Lib.hid hr
  have HS := Lib.hid hs
  have hl' : (zs.length : Int) ≤ 256 := by omega
  clear hv hr h hs
  go_enter Try.func73, Try.ntmps73
  go_wp2
  go_loopw [5, 9] (fun s i wr => ∃ (k q r : Nat), k ≤ zs.length ∧ i = .int .i64 k ∧ wr = w.drewN q ∧ s = .float .f32 r ∧ fv .f32 r = dotV (zs.take k) ((signsL zs.length salt).take k) ∧ r < 4294967296) (fun _ i _ => zs.length - (intOf i).toNat)
  case atStart => exact ⟨0, 0, 0, Nat.zero_le _, rfl, rfl, rfl, rfl, by decide⟩
  case round =>
    obtain ⟨k, q, r, hk, rfl, rfl, rfl, hv, hr⟩ := hrel
    have HVV := Lib.hid hv
    have HR := Lib.hid hr
    clear hv hr
    by_cases hlt : k < zs.length
    · rcases HC.out with h0 | ⟨b, off, rfl, hc⟩
      · omega
      have hcell := hc k hlt
      obtain ⟨x, hx⟩ : ∃ x, zs[k]?.getD 0 = x := ⟨_, rfl⟩
      rw [hx] at hcell
      obtain ⟨sv, hsv⟩ : ∃ sv, signV (k : Int) salt = sv := ⟨_, rfl⟩
      have HSV := Lib.hid hsv
      have HK := Lib.hid (keyB_small (k := k) (by omega))
      have hlt' : (k : Int) < (zs.length : Int) := by omega
      have HST := Lib.hid (show dotV (zs.take (k + 1)) ((signsL zs.length salt).take (k + 1)) = fop .add .f32 (dotV (zs.take k) ((signsL zs.length salt).take k)) (fop .mul .f32 (fv .f32 x) (fv .f32 (floatOfInt .f32 sv))) by
        rw [dotV_step zs (signsL zs.length salt) k hlt (by rw [signsL_length]; exact hlt), signsL_get _ salt k hlt, hsv, hx])
      clear hc hsv hx
      go_wp2
      go_region_with (go_at_call 107; refine (c_spec_l02Sign_g (k : Int) salt sv _ HK.out HS.out HSV.out).mono ?_; rintro e w' ⟨rfl, rfl⟩)
      all_goals
        go_wp2
        go_roundw
        case rel => exact ⟨k + 1, _, _, by omega, by go_num, rfl, rfl, by rw [HST.out, fv_flR, fv_flR, HVV.out], flR_lt _ _ _ _ _⟩
        case measure => simp [intOf]; omega
    · obtain rfl : k = zs.length := by omega
      go_wp2
      go_ret
      exact ⟨r, rfl, (by rw [HVV.out, List.take_length, List.take_of_length_le (Nat.le_of_eq (signsL_length _ _))]; exact HV.out), HR.out, q, rfl⟩
set_option maxHeartbeats 2000000 in
theorem c_spec_SignRow_q (a : Option Addr) (n cap : Nat) (zs : List Nat) (salt : Int) (w : World) {p : Option Nat × Bool} (hv : signRowR zs salt = p) (hm : n ≤ maxLen) (h : Reads w a n (flos zs)) :
    Calls Try.prog 24 #[.slice a n cap, .int .i64 salt] w (RetFV p w) := by
  have hz := h.flo.1
  have H := Lib.hid h
  have HM := Lib.hid hm
  clear h
  cases hx : vecB zs
  · have HX := Lib.hid hx
    have HP := Lib.hid (show p = (some 0, false) by rw [← hv]; exact signRowR_1 hx)
    clear hv hx hz hm
    go_enter Try.func24, Try.ntmps24
    go_wp2_with fail
    refine (c_spec_l07Vector _ _ _ zs _ HX.out HM.out H.out).mono ?_; rintro e w' ⟨rfl, q2, rfl⟩
    go_wp2
    go_ret2
    exact RetFV.zero _ HP.out
  cases hs : keyB salt
  · have HX := Lib.hid hx
    have HS := Lib.hid hs
    have HP := Lib.hid (show p = (some 0, false) by rw [← hv]; exact signRowR_2 hs)
    clear hv hx hz hm hs
    go_enter Try.func24, Try.ntmps24
    go_wp2_with fail
    refine (c_spec_l07Vector _ _ _ zs _ HX.out HM.out H.out).mono ?_; rintro e w' ⟨rfl, q2, rfl⟩
    go_wp2_with fail
    refine (c_spec_l02Key_g salt _ HS.out).mono ?_; rintro e w' ⟨rfl, rfl⟩
    go_wp2
    go_ret2
    exact RetFV.zero _ HP.out
  · have HX := Lib.hid hx
    have HS := Lib.hid hs
    have HP := Lib.hid (show tellV (srowV zs salt) = p by rw [← hv]; exact (signRowR_3 hx hs).symm)
    have HL := Lib.hid (show n ≤ 256 by have := (vec_ok hx).hi; omega)
    clear hv hx hs hz hm
    go_enter Try.func24, Try.ntmps24
    go_wp2_with fail
    refine (c_spec_l07Vector _ _ _ zs _ HX.out HM.out H.out).mono ?_; rintro e w' ⟨rfl, q2, rfl⟩
    go_wp2_with fail
    refine (c_spec_l02Key_g salt _ HS.out).mono ?_; rintro e w' ⟨rfl, rfl⟩
    go_wp2_with fail
    refine (c_spec_l07Row _ _ _ zs salt _ rfl HL.out HS.out (H.out.on (Ext.drewN _ _))).mono ?_; rintro e w' ⟨r, rfl, hr, hlt, q, rfl⟩
    have HR := Lib.hid hr
    have HLT := Lib.hid hlt
    clear hr hlt
    go_wp2_with fail
    refine (c_spec_l02Number_t r _ HR.out HP.out HLT.out).mono ?_; rintro e w' ⟨r2, rfl, hr2, hlt2, q4, rfl⟩
    have HR2 := Lib.hid hr2
    have HLT2 := Lib.hid hlt2
    clear hr2 hlt2
    go_wp2
    go_ret2
    exact RetFV.mk _ HR2.out rfl HLT2.out
theorem c_impl_SignRow (a : Option Addr) (n cap : Nat) (zs : List Nat) (salt : Int) (w : World) {v : Option Nat} {rb : Bool} (hv : signRowR zs salt = (v, rb)) (hm : n ≤ 1048576) (h : Reads w a n (flos zs)) (hb : ∀ z ∈ zs, z < 4294967296) :
    Calls Try.prog 25 #[.slice a n cap, .int .i64 salt] w fun e w' => ∃ f, e = .returned (.tuple #[.float .f32 f, .bool rb]) ∧ fv .f32 f = v ∧ Ext w w' :=
  (c_impl_SignRow_q a n cap zs salt w hv (maxLen_of hm) h hb).mono fun _ _ h => h.to
theorem c_spec_SignRow (a : Option Addr) (n cap : Nat) (zs : List Nat) (salt : Int) (w : World) {v : Option Nat} {rb : Bool} (hv : signRowR zs salt = (v, rb)) (hm : n ≤ 1048576) (h : Reads w a n (flos zs)) (hb : ∀ z ∈ zs, z < 4294967296) :
    Calls Try.prog 24 #[.slice a n cap, .int .i64 salt] w fun e w' => ∃ f, e = .returned (.tuple #[.float .f32 f, .bool rb]) ∧ fv .f32 f = v ∧ Ext w w' :=
  (c_spec_SignRow_q a n cap zs salt w hv (maxLen_of hm) h).mono fun _ _ h => h.to
end Go.Proofs.Ytlfdljakcbfkaaa
