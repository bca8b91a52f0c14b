/- SwapPlace, BackPlace: what both sides answer, whole. -/
import Derived.Test.YtibldgcfplpdkaaSwp
import Derived.WalkLawsBesides
namespace Go.Proofs.Ytibldgcfplpdkaa
open Go.ChangeShapes Go.WideShapes Go.ChangeAt Go.RowKit
set_option linter.unusedVariables false
def halfN (n : Nat) : Nat := if n ≤ 4 then 1 else if n ≤ 16 then 2 else if n ≤ 64 then 3 else if n ≤ 256 then 4 else if n ≤ 1024 then 5 else if n ≤ 4096 then 6 else if n ≤ 16384 then 7 else 8
theorem half_lt {n H : Nat} (h : 1 < H → 2 ^ (2 * (H - 1)) < n) : ∀ j, 1 ≤ j → j < H → 2 ^ (2 * j) < n := fun j h1 h2 =>
  Nat.lt_of_le_of_lt (Nat.pow_le_pow_right (by decide) (by omega)) (h (by omega))
theorem half_spec (n : Nat) (h2 : n ≤ 65536) : 1 ≤ halfN n ∧ halfN n ≤ 8 ∧ n ≤ 2 ^ (2 * halfN n) ∧ ∀ j, 1 ≤ j → j < halfN n → 2 ^ (2 * j) < n := by
  unfold halfN
  repeat' split
  all_goals (refine ⟨by decide, by decide, ?_, half_lt ?_⟩ <;> simp <;> omega)
theorem sq_pow (h : Nat) : 2 ^ (2 * h) = 2 ^ h * 2 ^ h := by rw [Nat.two_mul, Nat.pow_add]
def placeB (k n salt : Int) : Bool := inB 1 n 65536 && inB 0 k (n - 1) && keyB salt
def placeV (f : Int → Nat → Nat → Nat) (k n salt : Int) : Int := if placeB k n salt then (((firstN (f salt (2 ^ halfN n.toNat)) n.toNat (2 ^ (2 * halfN n.toNat)) k.toNat).getD 0 : Nat) : Int) else 0
theorem placeV_no {f : Int → Nat → Nat → Nat} {k n salt : Int} (h : placeB k n salt = false) : placeV f k n salt = 0 := by unfold placeV; rw [h]; rfl
theorem placeB_mk {k n salt : Int} (h1 : 1 ≤ n) (h2 : n ≤ 65536) (h3 : 0 ≤ k) (h4 : k < n) (h5 : keyB salt = true) : placeB k n salt = true := by
  unfold placeB; rw [inB_yes h1 h2, inB_yes h3 (by omega), h5]; rfl
theorem placeB_no {k n salt : Int} (h : ¬ (1 ≤ n ∧ n ≤ 65536 ∧ 0 ≤ k ∧ k < n ∧ keyB salt = true)) : placeB k n salt = false := by
  unfold placeB inB
  cases hs : keyB salt
  · simp
  · simp only [Bool.and_true, ← Bool.not_eq_true, Bool.and_eq_true, decide_eq_true_eq]
    intro h'
    exact h ⟨h'.1.1, h'.1.2, h'.2.1, by omega, hs⟩
theorem firstN_zero (f : Nat → Nat) (n k r : Nat) (h : firstN f n 0 k = some r) : False := by cases h
theorem firstN_hit {f : Nat → Nat} {n m k r : Nat} (h : firstN f n (m + 1) k = some r) (hl : f k < n) : r = f k := by
  unfold firstN at h; rw [if_pos hl] at h; cases h; rfl
theorem firstN_miss {f : Nat → Nat} {n m k r : Nat} (h : firstN f n (m + 1) k = some r) (hl : ¬ f k < n) : firstN f n m (f k) = some r := by
  unfold firstN at h; rw [if_neg hl] at h; exact h
/-- all that a walk wants of n and of the place that comes out -/
structure Way (f : Int → Nat → Nat → Nat) (k n : Nat) (salt : Int) (H size N R : Nat) : Prop where
  half : Half H size
  sq : N = size * size
  below : n ≤ N
  first : firstN (f salt size) n N k = some R
  val : placeV f k n salt = (R : Int)
  pow : ∀ j, 1 ≤ j → j < H → 2 ^ (2 * j) < n
  top : 2 ^ (2 * H) = N
theorem way_swapN {k n : Nat} {salt : Int} (h : placeB k n salt = true) (h2 : n ≤ 65536) (hk : k < n) : ∃ H size N R, Way swapN k n salt H size N R := by
  obtain ⟨a1, a2, a3, a4⟩ := half_spec n h2
  have e := sq_pow (halfN n)
  obtain ⟨r, hr⟩ := firstN_some (f := swapN salt (2 ^ halfN n)) (N := 2 ^ (2 * halfN n)) (fun x hx => by rw [e] at hx ⊢; exact swapN_lt salt _ x hx) (fun x y hx hy he => by rw [e] at hx hy; exact swapN_inj salt _ x y hx hy he) a3 k hk
  refine ⟨halfN n, 2 ^ halfN n, 2 ^ (2 * halfN n), r, ⟨a1, a2, rfl⟩, e, a3, hr, ?_, a4, rfl⟩
  unfold placeV
  rw [h, if_pos rfl, Int.toNat_natCast, Int.toNat_natCast, hr]
  rfl
theorem way_backN {k n : Nat} {salt : Int} (h : placeB k n salt = true) (h2 : n ≤ 65536) (hk : k < n) : ∃ H size N R, Way backN k n salt H size N R := by
  obtain ⟨a1, a2, a3, a4⟩ := half_spec n h2
  have e := sq_pow (halfN n)
  obtain ⟨r, hr⟩ := firstN_some (f := backN salt (2 ^ halfN n)) (N := 2 ^ (2 * halfN n)) (fun x hx => by rw [e] at hx ⊢; exact backN_lt salt _ x hx) (fun x y hx hy he => by rw [e] at hx hy; exact backN_inj salt _ x y hx hy he) a3 k hk
  refine ⟨halfN n, 2 ^ halfN n, 2 ^ (2 * halfN n), r, ⟨a1, a2, rfl⟩, e, a3, hr, ?_, a4, rfl⟩
  unfold placeV
  rw [h, if_pos rfl, Int.toNat_natCast, Int.toNat_natCast, hr]
  rfl
theorem c_l00In_to (k lo hi : Int) (w : World) {b : Bool} (h : inB lo k hi = b) : Calls Try.prog 120 #[.int .i64 k, .int .i64 lo, .int .i64 hi] w fun e w' => e = .returned (.bool b) ∧ w = w' := by
  subst h; exact c_l00In k lo hi w
theorem c_spec_l02Hash_eq (key salt v : Int) (w : World) (hk : keyB key = true) (hs : keyB salt = true) (hv : ((hashN key salt : Nat) : Int) = v) : Calls Try.prog 291 #[.int .i64 key, .int .i64 salt] w fun e w' => e = .returned (.int .i64 v) ∧ w = w' := by
  subst hv; exact c_spec_l02Hash key salt w hk hs
theorem c_spec_l02Key_to (k : Int) (w : World) {b : Bool} (h : keyB k = b) : Calls Try.prog 171 #[.int .i64 k] w fun e w' => e = .returned (.bool b) ∧ w = w' := by
  subst h; exact c_spec_l02Key k w
set_option maxHeartbeats 1000000 in
theorem c_impl_walk_swapOnce (k n salt : Int) (w : World) :
    Calls Try.prog 104 #[.int .i64 k, .int .i64 n, .int .i64 salt, .func (.func 105) #[] #[]] w fun e w' => e = .returned (.tuple #[.int .i64 (placeV swapN k n salt), .bool (placeB k n salt)]) ∧ Ext w w' := by
  by_cases g1 : n < 1
  · have HB := Lib.hid (placeB_no (k := k) (n := n) (salt := salt) (by omega))
    rw [placeV_no HB.out, HB.out]
    go_enter Try.func104, Try.ntmps104
    go_wp2
    go_ret2
    exact ⟨rfl, Ext.refl _⟩
  · by_cases g2 : 65536 < n
    · have HB := Lib.hid (placeB_no (k := k) (n := n) (salt := salt) (by omega))
      rw [placeV_no HB.out, HB.out]
      go_enter Try.func104, Try.ntmps104
      go_wp2
      go_ret2
      exact ⟨rfl, Ext.refl _⟩
    · by_cases g3 : k < 0
      · have HB := Lib.hid (placeB_no (k := k) (n := n) (salt := salt) (by omega))
        rw [placeV_no HB.out, HB.out]
        go_enter Try.func104, Try.ntmps104
        go_wp2
        go_ret2
        exact ⟨rfl, Ext.refl _⟩
      · by_cases g4 : k < n
        · cases hs : keyB salt
          · have HB := Lib.hid (placeB_no (k := k) (n := n) (salt := salt) (by rw [hs]; simp))
            have HS := Lib.hid hs
            rw [placeV_no HB.out, HB.out]
            clear hs
            go_enter Try.func104, Try.ntmps104
            go_wp2_with (go_at_call 97; refine (c_impl_IsKey_of salt _ HS.out).mono ?_; rintro e w' ⟨rfl, rfl⟩)
            go_ret2
            exact ⟨rfl, Ext.refl _⟩
          · have HB := Lib.hid (placeB_mk (by omega) (by omega) (by omega) g4 hs)
            have HS := Lib.hid hs
            obtain ⟨kk, rfl⟩ := Int.eq_ofNat_of_zero_le (show (0 : Int) ≤ k from by omega)
            obtain ⟨m, rfl⟩ := Int.eq_ofNat_of_zero_le (show (0 : Int) ≤ n from by omega)
            have hm2 : m ≤ 65536 := by omega
            have hkm : kk < m := by omega
            obtain ⟨H, size, N, R, hway⟩ := way_swapN HB.out hm2 hkm
            have HY := Lib.hid hway
            rw [hway.val, HB.out]
            have hH1 := hway.half.lo
            have hH8 := hway.half.hi
            clear hs hway g1 g2 g3 g4
            have g1 : ¬ (m : Int) < 1 := by omega
            have g2 : ¬ (65536 : Int) < m := by omega
            have g3 : ¬ (kk : Int) < 0 := by omega
            have g4 : (kk : Int) < m := by omega
            go_enter Try.func104, Try.ntmps104
            go_wp2_with (go_at_call 97; refine (c_impl_IsKey_of salt _ HS.out).mono ?_; rintro e w' ⟨rfl, rfl⟩)
            go_loop [10] (fun i => ∃ j : Nat, 1 ≤ j ∧ j ≤ H ∧ i = .int .i64 j) (fun i => H - (intOf i).toNat)
            case atStart => exact ⟨1, by omega, hH1, rfl⟩
            case round =>
              obtain ⟨j, hj1, hjH, rfl⟩ := hrel
              have hd : (2 * (j : Int)).toNat = 2 * j := by omega
              have hmn : min (2 * j) 64 = 2 * j := by omega
              obtain ⟨t, ht⟩ : ∃ t : Nat, 2 ^ (2 * j) = t := ⟨_, rfl⟩
              have hp : (2 : Int) ^ (2 * j) = (t : Int) := by rw [← ht, Int.natCast_pow]; rfl
              have htl : t ≤ 65536 := by rw [← ht]; exact Nat.le_trans (Nat.pow_le_pow_right (by decide) (show 2 * j ≤ 16 by omega)) (by decide)
              by_cases hlt : j < H
              · have htn : (t : Int) < (m : Int) := by have := HY.out.pow j hj1 hlt; omega
                clear ht
                go_wp2
                go_round
                case rel => exact ⟨j + 1, by omega, by omega, by go_num⟩
                case measure => simp [intOf]; omega
              · obtain rfl : j = H := by omega
                have htn : ¬ (t : Int) < (m : Int) := by have := HY.out.below; have := HY.out.top; omega
                clear ht
                go_wp2
                go_loopg [0] N (fun g x wr => ∃ y q : Nat, x = .int .i64 y ∧ y < N ∧ firstN (swapN salt size) m g y = some R ∧ wr = w.drewN q)
                case atStart => exact ⟨kk, 0, rfl, Nat.lt_of_lt_of_le hkm HY.out.below, HY.out.first, rfl⟩
                case round =>
                  obtain ⟨y, q, rfl, hyN, hf, hw⟩ := hrel
                  have HW := Lib.hid hw
                  have HF := Lib.hid hf
                  clear hw hf
                  cases gk with
                  | zero => exact (firstN_zero _ _ _ _ HF.out).elim
                  | succ g =>
                    obtain ⟨z, hz⟩ : ∃ z, swapN salt size y = z := ⟨_, rfl⟩
                    have HZN := Lib.hid (show z < N by rw [← hz, HY.out.sq, HY.out.half.pow]; exact swapN_lt salt _ y (by rw [← HY.out.half.pow, ← HY.out.sq]; exact hyN))
                    have HZ := Lib.hid hz
                    have HK := Lib.hid (show y < size * size by rw [← HY.out.sq]; exact hyN)
                    by_cases hzn : z < m
                    · have HR := Lib.hid (show R = z by rw [← hz]; exact firstN_hit HF.out (by rw [hz]; exact hzn))
                      have hzn' : (z : Int) < (m : Int) := by omega
                      clear hz hzn
                      go_wp2_with (go_at_call 105; refine (c_impl_swapOnce y j size salt _ HY.out.half HK.out HS.out).mono ?_; rintro e w' ⟨rfl, q', rfl⟩; rw [HZ.out])
                      go_ret2
                      exact ⟨by rw [HR.out]; rfl, by rw [HW.out, World.drewN_drewN]; exact Ext.drewN _ _⟩
                    · have HN := Lib.hid (show firstN (swapN salt size) m g z = some R by rw [← hz]; exact firstN_miss HF.out (by rw [hz]; exact hzn))
                      have hzn' : ¬ (z : Int) < (m : Int) := by omega
                      clear hz hzn
                      go_wp2_with (go_at_call 105; refine (c_impl_swapOnce y j size salt _ HY.out.half HK.out HS.out).mono ?_; rintro e w' ⟨rfl, q', rfl⟩; rw [HZ.out])
                      go_roundg g
                      case measure => omega
                      case rel => exact ⟨z, _, rfl, HZN.out, HN.out, by rw [HW.out, World.drewN_drewN]⟩
        · have HB := Lib.hid (placeB_no (k := k) (n := n) (salt := salt) (by omega))
          rw [placeV_no HB.out, HB.out]
          have g4' : n ≤ k := by omega
          clear g4
          go_enter Try.func104, Try.ntmps104
          go_wp2
          go_ret2
          exact ⟨rfl, Ext.refl _⟩
theorem c_impl_SwapPlace (k n salt : Int) (w : World) :
    Calls Try.prog 22 #[.int .i64 k, .int .i64 n, .int .i64 salt] w fun e w' => e = .returned (.tuple #[.int .i64 (placeV swapN k n salt), .bool (placeB k n salt)]) ∧ Ext w w' := by
  go_enter Try.func22, Try.ntmps22
  go_wp2_with fail
  refine (c_impl_walk_swapOnce k n salt _).mono ?_; rintro e w' ⟨rfl, x'⟩
  have HX := Lib.hid x'
  clear x'
  go_wp2
  go_ret2
  exact ⟨rfl, HX.out⟩
set_option maxHeartbeats 1000000 in
theorem c_impl_walk_backOnce (k n salt : Int) (w : World) :
    Calls Try.prog 104 #[.int .i64 k, .int .i64 n, .int .i64 salt, .func (.func 106) #[] #[]] w fun e w' => e = .returned (.tuple #[.int .i64 (placeV backN k n salt), .bool (placeB k n salt)]) ∧ Ext w w' := by
  by_cases g1 : n < 1
  · have HB := Lib.hid (placeB_no (k := k) (n := n) (salt := salt) (by omega))
    rw [placeV_no HB.out, HB.out]
    go_enter Try.func104, Try.ntmps104
    go_wp2
    go_ret2
    exact ⟨rfl, Ext.refl _⟩
  · by_cases g2 : 65536 < n
    · have HB := Lib.hid (placeB_no (k := k) (n := n) (salt := salt) (by omega))
      rw [placeV_no HB.out, HB.out]
      go_enter Try.func104, Try.ntmps104
      go_wp2
      go_ret2
      exact ⟨rfl, Ext.refl _⟩
    · by_cases g3 : k < 0
      · have HB := Lib.hid (placeB_no (k := k) (n := n) (salt := salt) (by omega))
        rw [placeV_no HB.out, HB.out]
        go_enter Try.func104, Try.ntmps104
        go_wp2
        go_ret2
        exact ⟨rfl, Ext.refl _⟩
      · by_cases g4 : k < n
        · cases hs : keyB salt
          · have HB := Lib.hid (placeB_no (k := k) (n := n) (salt := salt) (by rw [hs]; simp))
            have HS := Lib.hid hs
            rw [placeV_no HB.out, HB.out]
            clear hs
            go_enter Try.func104, Try.ntmps104
            go_wp2_with (go_at_call 97; refine (c_impl_IsKey_of salt _ HS.out).mono ?_; rintro e w' ⟨rfl, rfl⟩)
            go_ret2
            exact ⟨rfl, Ext.refl _⟩
          · have HB := Lib.hid (placeB_mk (by omega) (by omega) (by omega) g4 hs)
            have HS := Lib.hid hs
            obtain ⟨kk, rfl⟩ := Int.eq_ofNat_of_zero_le (show (0 : Int) ≤ k from by omega)
            obtain ⟨m, rfl⟩ := Int.eq_ofNat_of_zero_le (show (0 : Int) ≤ n from by omega)
            have hm2 : m ≤ 65536 := by omega
            have hkm : kk < m := by omega
            obtain ⟨H, size, N, R, hway⟩ := way_backN HB.out hm2 hkm
            have HY := Lib.hid hway
            rw [hway.val, HB.out]
            have hH1 := hway.half.lo
            have hH8 := hway.half.hi
            clear hs hway g1 g2 g3 g4
            have g1 : ¬ (m : Int) < 1 := by omega
            have g2 : ¬ (65536 : Int) < m := by omega
            have g3 : ¬ (kk : Int) < 0 := by omega
            have g4 : (kk : Int) < m := by omega
            go_enter Try.func104, Try.ntmps104
            go_wp2_with (go_at_call 97; refine (c_impl_IsKey_of salt _ HS.out).mono ?_; rintro e w' ⟨rfl, rfl⟩)
            go_loop [10] (fun i => ∃ j : Nat, 1 ≤ j ∧ j ≤ H ∧ i = .int .i64 j) (fun i => H - (intOf i).toNat)
            case atStart => exact ⟨1, by omega, hH1, rfl⟩
            case round =>
              obtain ⟨j, hj1, hjH, rfl⟩ := hrel
              have hd : (2 * (j : Int)).toNat = 2 * j := by omega
              have hmn : min (2 * j) 64 = 2 * j := by omega
              obtain ⟨t, ht⟩ : ∃ t : Nat, 2 ^ (2 * j) = t := ⟨_, rfl⟩
              have hp : (2 : Int) ^ (2 * j) = (t : Int) := by rw [← ht, Int.natCast_pow]; rfl
              have htl : t ≤ 65536 := by rw [← ht]; exact Nat.le_trans (Nat.pow_le_pow_right (by decide) (show 2 * j ≤ 16 by omega)) (by decide)
              by_cases hlt : j < H
              · have htn : (t : Int) < (m : Int) := by have := HY.out.pow j hj1 hlt; omega
                clear ht
                go_wp2
                go_round
                case rel => exact ⟨j + 1, by omega, by omega, by go_num⟩
                case measure => simp [intOf]; omega
              · obtain rfl : j = H := by omega
                have htn : ¬ (t : Int) < (m : Int) := by have := HY.out.below; have := HY.out.top; omega
                clear ht
                go_wp2
                go_loopg [0] N (fun g x wr => ∃ y q : Nat, x = .int .i64 y ∧ y < N ∧ firstN (backN salt size) m g y = some R ∧ wr = w.drewN q)
                case atStart => exact ⟨kk, 0, rfl, Nat.lt_of_lt_of_le hkm HY.out.below, HY.out.first, rfl⟩
                case round =>
                  obtain ⟨y, q, rfl, hyN, hf, hw⟩ := hrel
                  have HW := Lib.hid hw
                  have HF := Lib.hid hf
                  clear hw hf
                  cases gk with
                  | zero => exact (firstN_zero _ _ _ _ HF.out).elim
                  | succ g =>
                    obtain ⟨z, hz⟩ : ∃ z, backN salt size y = z := ⟨_, rfl⟩
                    have HZN := Lib.hid (show z < N by rw [← hz, HY.out.sq, HY.out.half.pow]; exact backN_lt salt _ y (by rw [← HY.out.half.pow, ← HY.out.sq]; exact hyN))
                    have HZ := Lib.hid hz
                    have HK := Lib.hid (show y < size * size by rw [← HY.out.sq]; exact hyN)
                    by_cases hzn : z < m
                    · have HR := Lib.hid (show R = z by rw [← hz]; exact firstN_hit HF.out (by rw [hz]; exact hzn))
                      have hzn' : (z : Int) < (m : Int) := by omega
                      clear hz hzn
                      go_wp2_with (go_at_call 106; refine (c_impl_backOnce y j size salt _ HY.out.half HK.out HS.out).mono ?_; rintro e w' ⟨rfl, q', rfl⟩; rw [HZ.out])
                      go_ret2
                      exact ⟨by rw [HR.out]; rfl, by rw [HW.out, World.drewN_drewN]; exact Ext.drewN _ _⟩
                    · have HN := Lib.hid (show firstN (backN salt size) m g z = some R by rw [← hz]; exact firstN_miss HF.out (by rw [hz]; exact hzn))
                      have hzn' : ¬ (z : Int) < (m : Int) := by omega
                      clear hz hzn
                      go_wp2_with (go_at_call 106; refine (c_impl_backOnce y j size salt _ HY.out.half HK.out HS.out).mono ?_; rintro e w' ⟨rfl, q', rfl⟩; rw [HZ.out])
                      go_roundg g
                      case measure => omega
                      case rel => exact ⟨z, _, rfl, HZN.out, HN.out, by rw [HW.out, World.drewN_drewN]⟩
        · have HB := Lib.hid (placeB_no (k := k) (n := n) (salt := salt) (by omega))
          rw [placeV_no HB.out, HB.out]
          have g4' : n ≤ k := by omega
          clear g4
          go_enter Try.func104, Try.ntmps104
          go_wp2
          go_ret2
          exact ⟨rfl, Ext.refl _⟩
theorem c_impl_BackPlace (k n salt : Int) (w : World) :
    Calls Try.prog 23 #[.int .i64 k, .int .i64 n, .int .i64 salt] w fun e w' => e = .returned (.tuple #[.int .i64 (placeV backN k n salt), .bool (placeB k n salt)]) ∧ Ext w w' := by
  go_enter Try.func23, Try.ntmps23
  go_wp2_with fail
  refine (c_impl_walk_backOnce k n salt _).mono ?_; rintro e w' ⟨rfl, x'⟩
  have HX := Lib.hid x'
  clear x'
  go_wp2
  go_ret2
  exact ⟨rfl, HX.out⟩
end Go.Proofs.Ytibldgcfplpdkaa
