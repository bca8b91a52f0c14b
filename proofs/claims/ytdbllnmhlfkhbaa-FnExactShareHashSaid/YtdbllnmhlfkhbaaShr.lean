/- ShareHash: a product with 2 ^ -24 is the quotient by 2 ^ 24; what both sides answer; the law's walk. -/
import Derived.Test.YtdbllnmhlfkhbaaSca
import Derived.Test.YtdbllnmhlfkhbaaCon
namespace Go.Proofs.Ytdbllnmhlfkhbaa
open Go.ChangeShapes Go.WideShapes Go.ChangeAt Go.RowKit Go.Proofs.Ytdbllnmhlfkhbaa.Flo
set_option linter.unusedVariables false
attribute [local go_sem] run_fl_add run_fl_sub run_fl_mul run_fl_quo run_conv run_store_float run_store_complex
theorem log2_mul_pow (m a : Nat) (h : m ≠ 0) : (m * 2 ^ a).log2 = m.log2 + a := by
  have hp := Nat.two_pow_pos a
  have h0 : m * 2 ^ a ≠ 0 := by
    intro e
    rcases Nat.mul_eq_zero.1 e with e | e
    · exact h e
    · omega
  refine (Nat.log2_eq_iff h0).2 ⟨?_, ?_⟩
  · rw [Nat.pow_add]; exact Nat.mul_le_mul_right _ (Nat.log2_self_le h)
  · rw [show m.log2 + a + 1 = (m.log2 + 1) + a by omega, Nat.pow_add]
    exact Nat.mul_lt_mul_of_pos_right Nat.lt_log2_self hp
theorem cut_scale (s : Bool) (n d a : Nat) (h : n ≠ 0) : Ieee.Toward.even.cut s (n * 2 ^ a) (d + a) = Ieee.Toward.even.cut s n d := by
  have hp := Nat.two_pow_pos a
  unfold Ieee.Toward.cut
  rw [log2_mul_pow n a h]
  have e : min (d + a) (n.log2 + a + 2) = min d (n.log2 + 2) + a := by omega
  simp only [e]
  rw [Nat.shiftLeft_eq, Nat.shiftLeft_eq, Nat.one_mul, Nat.one_mul, Nat.pow_add]
  obtain ⟨g, hg⟩ : ∃ g, 2 ^ min d (n.log2 + 2) = g := ⟨_, rfl⟩
  rw [hg]
  have e1 : n * 2 ^ a / (g * 2 ^ a) = n / g := Nat.mul_div_mul_right _ _ hp
  have e2 : n * 2 ^ a % (g * 2 ^ a) = n % g * 2 ^ a := Nat.mul_mod_mul_right _ _ _
  rw [e1, e2]
  obtain ⟨r, hr⟩ : ∃ r, n % g = r := ⟨_, rfl⟩
  rw [hr]
  have c1 : (g * 2 ^ a < 2 * (r * 2 ^ a)) ↔ (g < 2 * r) := by
    rw [← Nat.mul_assoc]; exact Nat.mul_lt_mul_right hp
  have c2 : (g * 2 ^ a = 2 * (r * 2 ^ a)) ↔ (g = 2 * r) := by
    rw [← Nat.mul_assoc]; exact Nat.mul_left_inj (by omega)
  have d1 : decide (g * 2 ^ a < 2 * (r * 2 ^ a)) = decide (g < 2 * r) := by simp only [c1]
  have d2 : (g * 2 ^ a == 2 * (r * 2 ^ a)) = (g == 2 * r) := by
    rw [Bool.eq_iff_iff]; simp only [beq_iff_eq]; exact c2
  simp only [d1, d2]
theorem near_scale (f : Ieee.Format) (s : Bool) (m a : Nat) (E : Int) (h : m ≠ 0) : f.nearest s (m * 2 ^ a) (E - a) = f.nearest s m E := by
  have hp := Nat.two_pow_pos a
  have h0 : m * 2 ^ a ≠ 0 := by
    intro e
    rcases Nat.mul_eq_zero.1 e with e | e
    · exact h e
    · omega
  unfold Ieee.Format.nearest
  rw [if_neg h0, if_neg h, log2_mul_pow m a h]
  have e : (E - (a : Int)) + ((m.log2 + a : Nat) : Int) - f.fractionBits = E + (m.log2 : Int) - f.fractionBits := by omega
  simp only [e]
  obtain ⟨L, hL⟩ : ∃ L : Int, max (E + (m.log2 : Int) - f.fractionBits) f.leastPlace = L := ⟨_, rfl⟩
  rw [hL]
  have key : Ieee.Toward.even.cut s ((m * 2 ^ a) <<< (E - (a : Int) - L).toNat) (L - (E - (a : Int))).toNat = Ieee.Toward.even.cut s (m <<< (E - L).toNat) (L - E).toNat := by
    simp only [Nat.shiftLeft_eq]
    by_cases h1 : L ≤ E
    · rw [show (L - E).toNat = 0 by omega]
      by_cases h2 : L ≤ E - a
      · rw [show (L - (E - (a : Int))).toNat = 0 by omega]
        congr 1
        rw [Nat.mul_assoc, ← Nat.pow_add]
        congr 2
        omega
      · obtain ⟨d, hd⟩ : ∃ d, (L - (E - (a : Int))).toNat = d := ⟨_, rfl⟩
        rw [hd, show (E - (a : Int) - L).toNat = 0 by omega, Nat.pow_zero, Nat.mul_one]
        have e3 : m * 2 ^ a = (m * 2 ^ (E - L).toNat) * 2 ^ d := by
          rw [Nat.mul_assoc, ← Nat.pow_add]; congr 2; omega
        rw [e3]
        have := cut_scale s (m * 2 ^ (E - L).toNat) 0 d (by
          intro e
          rcases Nat.mul_eq_zero.1 e with e | e
          · exact h e
          · have := Nat.two_pow_pos (E - L).toNat; omega)
        rw [Nat.zero_add] at this
        exact this
    · rw [show (E - (a : Int) - L).toNat = 0 by omega, show (E - L).toNat = 0 by omega, Nat.pow_zero, Nat.mul_one, Nat.mul_one, show (L - (E - (a : Int))).toNat = (L - E).toNat + a by omega]
      exact cut_scale s m _ a h
  rw [key]
theorem read_m (x : Nat) : ∀ s m i, Ieee.single.read x = .number s m i → m < 16777216 := by
  intro s m i h
  unfold Ieee.Format.read at h
  have hb : Ieee.single.binade = 8388608 := rfl
  simp only [hb] at h
  split at h
  · cases h; omega
  · split at h
    · cases h; omega
    · split at h <;> cases h
theorem read_small : Ieee.single.read 864026624 = .number false 8388608 (-47) := by kernel_rfl
theorem read_large : Ieee.single.read 1266679808 = .number false 8388608 1 := by kernel_rfl
theorem share_bits (x : Nat) : floatBits .mul .f32 x 864026624 = floatBits .quo .f32 x 1266679808 := by
  show ((Ieee.single.read x).product (Ieee.single.read 864026624)).map Ieee.single.write = ((Ieee.single.read x).quotient (Ieee.single.fractionBits + 2) (Ieee.single.read 1266679808)).map Ieee.single.write
  rw [read_small, read_large]
  cases hx : Ieee.single.read x with
  | nan s t => rfl
  | infinity s => rfl
  | number s m i =>
    have hm := read_m x s m i hx
    by_cases h0 : m = 0
    · subst h0
      have hz : ∀ p : Int, Ieee.single.nearest s 0 p = Ieee.single.word s 0 := fun p => by unfold Ieee.Format.nearest; rw [if_pos rfl]
      cases s
      · show some (Ieee.single.nearest (false ^^ false) (0 * 8388608) _) = some (Ieee.single.nearest (false ^^ false) _ _)
        simp [hz]
      · show some (Ieee.single.nearest (true ^^ false) (0 * 8388608) _) = some (Ieee.single.nearest (true ^^ false) _ _)
        simp [hz]
    · have hl : m.log2 ≤ 23 := by have := (Nat.log2_lt h0).2 (show m < 2 ^ 24 from hm); omega
      obtain ⟨more, hmore⟩ : ∃ more, 25 + 23 - m.log2 = more := ⟨_, rfl⟩
      have hlg : (8388608 : Nat).log2 = 23 := by decide +kernel
      have hq : Ieee.Datum.quotient (Ieee.single.fractionBits + 2) (.number s m i) (.number false 8388608 1) = some (.number (s ^^ false) (m * 2 ^ (more - 22)) ((i - 24) - ((more - 22 : Nat) : Int))) := by
        unfold Ieee.Datum.quotient
        dsimp only
        rw [if_neg (show ¬ (8388608 : Nat) = 0 by decide)]
        simp only [hlg, show Ieee.single.fractionBits + 2 = 25 from rfl, hmore, Nat.shiftLeft_eq]
        have e1 : m * 2 ^ more = (m * 2 ^ (more - 23)) * 8388608 := by
          rw [show (8388608 : Nat) = 2 ^ 23 from rfl, Nat.mul_assoc, ← Nat.pow_add, show more - 23 + 23 = more by omega]
        rw [e1, Nat.mul_div_cancel _ (by decide), Nat.mul_mod_left]
        have e2 : 2 * (m * 2 ^ (more - 23)) = m * 2 ^ (more - 22) := by
          rw [show more - 22 = (more - 23) + 1 by omega, Nat.pow_succ]
          generalize 2 ^ (more - 23) = t
          rw [Nat.mul_left_comm, Nat.mul_comm 2 t]
        rw [e2]
        have e3 : i - 1 - (more : Int) - 1 = (i - 24) - ((more - 22 : Nat) : Int) := by omega
        rw [e3]
        rfl
      rw [hq]
      show some (Ieee.single.nearest (s ^^ false) (m * 8388608) (i + -47)) = some (Ieee.single.nearest (s ^^ false) (m * 2 ^ (more - 22)) ((i - 24) - ((more - 22 : Nat) : Int)))
      rw [near_scale _ _ _ _ _ h0]
      have := near_scale Ieee.single (s ^^ false) m 23 (i - 24) h0
      rw [← this]
      congr 2
      omega
theorem share_fop (x : Nat) : fop .mul .f32 (fv .f32 x) (fv .f32 864026624) = fop .quo .f32 (fv .f32 x) (fv .f32 1266679808) := by
  rw [← floatBits_fop, ← floatBits_fop, share_bits]
def shareV (key salt : Int) : Option Nat := fop .quo .f32 (fv .f32 (floatOfInt .f32 (hashV key salt / 256))) (fv .f32 1266679808)
theorem share_zero : fop .quo .f32 (fv .f32 (floatOfInt .f32 (0 / 256))) (fv .f32 1266679808) = some 0 := by kernel_rfl
theorem fv_null : fv .f32 0 = some 0 := by kernel_rfl
theorem shareV_no {key salt : Int} (h : (keyB key && keyB salt) = false) : shareV key salt = some 0 := by unfold shareV; rw [hashV_no h]; exact share_zero
def RetFS (V : Option Nat) (b : Bool) (w : World) (e : Ending) (w' : World) : Prop := ∃ r, e = .returned (.tuple #[.float .f32 r, .bool b]) ∧ fv .f32 r = V ∧ ∃ n, w' = w.drewN n
theorem c_impl_ShareHash (key salt : Int) (w : World) : Calls Try.prog 38 #[.int .i64 key, .int .i64 salt] w (RetFS (shareV key salt) (keyB key && keyB salt) w) := by
  obtain ⟨h0, h1⟩ := hashV_bd key salt
  obtain ⟨v, hv⟩ : ∃ v, hashV key salt = v := ⟨_, rfl⟩
  obtain ⟨b, hb⟩ : ∃ b, (keyB key && keyB salt) = b := ⟨_, rfl⟩
  have HV := Lib.hid hv
  have HB := Lib.hid hb
  have HS := Lib.hid (show fop .mul .f32 (fv .f32 (floatOfInt .f32 (v / 256))) (fv .f32 864026624) = shareV key salt by rw [share_fop]; unfold shareV; rw [hv])
  rw [hv] at h0 h1
  rw [hb]
  clear hv hb
  go_enter Try.func38, Try.ntmps38
  go_wp2_with (go_at_call 23; refine (c_impl_HashOf_of key salt _ HB.out HV.out).mono ?_; rintro e w' ⟨rfl, rfl⟩)
  go_ret2
  exact ⟨_, rfl, by rw [fv_flR]; exact HS.out, _, rfl⟩
theorem c_spec_ShareHash (key salt : Int) (w : World) : Calls Try.prog 37 #[.int .i64 key, .int .i64 salt] w (RetFS (shareV key salt) (keyB key && keyB salt) w) := by
  cases hb : keyB key && keyB salt
  · have HB := Lib.hid hb
    rw [shareV_no hb]
    clear hb
    go_enter Try.func37, Try.ntmps37
    go_wp2_with (go_at_call 47; refine (c_spec_l02Both_of key salt _ HB.out).mono ?_; rintro e w' ⟨rfl, rfl⟩)
    go_ret2
    exact ⟨0, rfl, fv_null, 0, rfl⟩
  · have HB := Lib.hid hb
    obtain ⟨hk, hs⟩ := both_yes hb
    obtain ⟨v, hv⟩ : ∃ v : Int, ((hashN key salt : Nat) : Int) = v := ⟨_, rfl⟩
    have hlt := hashN_lt key salt
    have h0 : 0 ≤ v := by omega
    have h1 : v < 4294967296 := by omega
    have HV := Lib.hid hv
    have HS := Lib.hid (show fop .quo .f32 (fv .f32 (floatOfInt .f32 (v / 256))) (fv .f32 1266679808) = shareV key salt by unfold shareV; rw [hashV_yes hk hs, hv])
    have HK := Lib.hid hk
    have HSS := Lib.hid hs
    clear hb hk hs hv hlt
    go_enter Try.func37, Try.ntmps37
    go_wp2_with (first | (go_at_call 47; refine (c_spec_l02Both_of key salt _ HB.out).mono ?_; rintro e w' ⟨rfl, rfl⟩) | (go_at_call 48; refine (c_spec_l02Hash_of key salt _ _ HK.out HSS.out HV.out).mono ?_; rintro e w' ⟨rfl, rfl⟩))
    go_ret2
    exact ⟨_, rfl, by rw [fv_flR]; exact HS.out, _, rfl⟩
theorem walk_FnExactShareHash (a0 a1 : Int) (w : World) (w0 : (Lit.int .i64 a0).wf = true) (w1 : (Lit.int .i64 a1).wf = true) :
    Calls Try.prog 12 #[.int .i64 a0, .int .i64 a1] w fun e w' => e = .returned (.bool true) ∧ Below w.heap.size w w' := by
  clear w0 w1
  go_enter Try.func12, Try.ntmps12
  go_wp2_with fail
  refine (c_spec_ShareHash a0 a1 _).mono ?_; rintro e u1 ⟨r1, rfl, hv1, n1, rfl⟩
  have HV1 := Lib.hid hv1; clear hv1
  go_wp2_with fail
  refine (c_impl_ShareHash a0 a1 _).mono ?_; rintro e u2 ⟨r2, rfl, hv2, n2, rfl⟩
  have HV2 := Lib.hid hv2; clear hv2
  go_wp2_with fail
  refine (c_sameFloat _ _ _ (by rw [fv_wideR, fv_wideR, HV1.out, HV2.out])).mono ?_; rintro e w' ⟨rfl, m, rfl⟩
  go_wp2
  go_ret
  exact ⟨rfl, Ext.drewN _ _⟩
end Go.Proofs.Ytdbllnmhlfkhbaa
