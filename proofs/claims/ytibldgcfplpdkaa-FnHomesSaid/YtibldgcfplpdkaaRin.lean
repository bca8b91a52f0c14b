/- RingHome: what both sides answer. -/
import Derived.Test.YtibldgcfplpdkaaLea
namespace Go.Proofs.Ytibldgcfplpdkaa
open Go.ChangeShapes Go.WideShapes Go.ChangeAt Go.RowKit
set_option linter.unusedVariables false
def atZ (zs : List Int) (i : Nat) : Int := zs[i]?.getD 0
def sortedB (f : Nat → Int) (n : Nat) : Bool := decide (∀ i, i < n → i + 1 < n → f i ≤ f (i + 1))
theorem sortedB_yes {f : Nat → Int} {n : Nat} (h : ∀ i, i + 1 < n → f i ≤ f (i + 1)) : sortedB f n = true := decide_eq_true fun i _ hi => h i hi
theorem sortedB_no {f : Nat → Int} {n i : Nat} (h1 : i + 1 < n) (h2 : f (i + 1) < f i) : sortedB f n = false := decide_eq_false fun h => by have := h i (by omega) h1; omega
theorem sortedB_of {f : Nat → Int} {n : Nat} (h : sortedB f n = true) : ∀ i, i + 1 < n → f i ≤ f (i + 1) := fun i hi => of_decide_eq_true h i (by omega) hi
theorem sorted_le {f : Nat → Int} {n : Nat} (h : ∀ i, i + 1 < n → f i ≤ f (i + 1)) : ∀ d i, i + d < n → f i ≤ f (i + d)
  | 0, i, _ => Int.le_refl _
  | d + 1, i, hd => Int.le_trans (sorted_le h d i (by omega)) (by have := h (i + d) (by omega); exact this)
theorem sorted_to {f : Nat → Int} {n : Nat} (h : sortedB f n = true) {i j : Nat} (hij : i ≤ j) (hj : j < n) : f i ≤ f j := by
  have := sorted_le (sortedB_of h) (j - i) i (by omega)
  rwa [show i + (j - i) = j by omega] at this
/-- the first place of what is at least t -/
def posN (f : Nat → Int) (t : Int) : Nat → Nat
  | 0 => 0
  | n + 1 => if posN f t n < n then posN f t n else if f n < t then n + 1 else n
structure IsPos (f : Nat → Int) (t : Int) (n p : Nat) : Prop where
  le : p ≤ n
  below : ∀ j, j < p → f j < t
  here : p < n → t ≤ f p
theorem posN_is (f : Nat → Int) (t : Int) : ∀ n, IsPos f t n (posN f t n)
  | 0 => ⟨Nat.le_refl _, fun j h => absurd h (Nat.not_lt_zero _), fun h => absurd h (Nat.not_lt_zero _)⟩
  | n + 1 => by
    have ih := posN_is f t n
    unfold posN
    split
    · rename_i h
      exact ⟨by omega, ih.below, fun _ => ih.here h⟩
    · rename_i h
      have hp : posN f t n = n := by have := ih.le; omega
      split
      · rename_i hl
        exact ⟨Nat.le_refl _, fun j hj => by
          by_cases e : j = n
          · subst e; exact hl
          · exact ih.below j (by omega), fun h => by omega⟩
      · rename_i hl
        exact ⟨by omega, fun j hj => ih.below j (by omega), fun _ => by omega⟩
theorem IsPos.eq {f : Nat → Int} {t : Int} {n p q : Nat} (h : IsPos f t n p) (k : IsPos f t n q) : p = q := by
  have h1 := h.le; have h2 := k.le
  rcases Nat.lt_trichotomy p q with h3 | h3 | h3
  · have := k.below p h3; have := h.here (by omega); omega
  · exact h3
  · have := h.below q h3; have := k.here (by omega); omega
def ringB (key salt : Int) (zs : List Int) : Bool := (keyB key && keyB salt) && keysB zs && decide (1 ≤ zs.length) && sortedB (atZ zs) zs.length
def ringV (key salt : Int) (zs : List Int) : Int := if ringB key salt zs then ((posN (atZ zs) (hashN key salt : Nat) zs.length % zs.length : Nat) : Int) else 0
theorem ringV_no {key salt : Int} {zs : List Int} (h : ringB key salt zs = false) : ringV key salt zs = 0 := by unfold ringV; rw [h]; rfl
theorem ringV_yes {key salt : Int} {zs : List Int} (h : ringB key salt zs = true) : ringV key salt zs = ((posN (atZ zs) (hashN key salt : Nat) zs.length % zs.length : Nat) : Int) := by unfold ringV; rw [h, if_pos rfl]
theorem ringB_1 {key salt : Int} {zs : List Int} (h : (keyB key && keyB salt) = false) : ringB key salt zs = false := by unfold ringB; rw [h]; rfl
theorem ringB_2 {key salt : Int} {zs : List Int} (h : keysB zs = false) : ringB key salt zs = false := by unfold ringB; rw [h]; simp
theorem ringB_3 {key salt : Int} {zs : List Int} (h : zs.length = 0) : ringB key salt zs = false := by unfold ringB; rw [h]; simp
theorem ringB_4 {key salt : Int} {zs : List Int} (h : sortedB (atZ zs) zs.length = false) : ringB key salt zs = false := by unfold ringB; rw [h]; simp
theorem ringB_mk {key salt : Int} {zs : List Int} (h1 : (keyB key && keyB salt) = true) (h2 : keysB zs = true) (h3 : 1 ≤ zs.length) (h4 : sortedB (atZ zs) zs.length = true) : ringB key salt zs = true := by unfold ringB; rw [h1, h2, decide_eq_true h3, h4]; rfl
theorem c_cmpLess_same (x y : Int) (w : World) {b : Bool} (h : decide (x < y) = b) : Calls Try.prog 208 #[.int .i64 x, .int .i64 y] w fun e w' => e = .returned (.bool b) ∧ w' = w :=
  (c_cmpLess x y w h).mono (by rintro e w' ⟨rfl, rfl⟩; exact ⟨rfl, rfl⟩)
set_option maxHeartbeats 400000 in
theorem c_IsSorted (a : Option Addr) (n cap : Nat) (zs : List Int) (w : World) (hn : n ≤ 1048576) (h1 : 1 ≤ n) (h : Reads w a n (ints zs)) :
    Calls Try.prog 102 #[.slice a n cap] w fun e w' => e = .returned (.bool (sortedB (atZ zs) n)) ∧ ∃ q, w' = w.drewN q := by
  obtain ⟨rfl, hr⟩ := h.int
  rcases hr with h0 | ⟨b, off, rfl, hc⟩
  · omega
  have HC := Lib.hid (show ∀ i, i < zs.length → w.cell? ⟨b, off + i, none⟩ = some (.int .i64 (atZ zs i)) from hc)
  obtain ⟨f, hf⟩ : ∃ f, atZ zs = f := ⟨_, rfl⟩
  rw [hf] at HC ⊢
  clear hc h hf
  go_enter Try.func102, Try.ntmps102
  go_wp2
  go_loopw [3] (fun i wr => ∃ k q : Nat, k + 1 ≤ zs.length ∧ i = .int .i64 k ∧ (∀ j, k ≤ j → j + 1 < zs.length → f j ≤ f (j + 1)) ∧ wr = w.drewN q) (fun i _ => (intOf i).toNat)
  case atStart => exact ⟨zs.length - 1, 0, by omega, by first | rfl | exact congrArg (Value.int IntKind.i64) (by omega), fun j h1 h2 => by omega, rfl⟩
  case round =>
    obtain ⟨k, q, hk, rfl, hs, hw⟩ := hrel
    have HS := Lib.hid hs
    have HW := Lib.hid hw
    clear hs hw
    by_cases hlt : 0 < k
    · have hcx : wr.cell? ⟨b, off + k, none⟩ = some (.int .i64 (f k)) := by rw [HW.out]; exact HC.out k (by omega)
      have hcy : wr.cell? ⟨b, off + (k - 1), none⟩ = some (.int .i64 (f (k - 1))) := by rw [HW.out]; exact HC.out (k - 1) (by omega)
      obtain ⟨u, hu⟩ : ∃ u, f k = u := ⟨_, rfl⟩
      obtain ⟨v, hv⟩ : ∃ v, f (k - 1) = v := ⟨_, rfl⟩
      rw [hu] at hcx
      rw [hv] at hcy
      have hk1 : ((k : Int) - 1) = ((k - 1 : Nat) : Int) := by omega
      by_cases hlt2 : u < v
      · have HD := Lib.hid (show decide (u < v) = true from decide_eq_true hlt2)
        have HR := Lib.hid (sortedB_no (f := f) (n := zs.length) (i := k - 1) (by omega) (by rw [show k - 1 + 1 = k by omega, hu, hv]; exact hlt2))
        clear hu hv hlt2
        go_wp2
        go_quiet (first | (go_at_call_of 208 (Value.int .i64 u); exact Calls.quiet_of_same (c_cmpLess_same u v _ HD.out)))
        go_wp2
        go_ret
        exact ⟨by rw [HR.out]; rfl, _, by rw [HW.out, World.drewN_drewN]⟩
      · have HD := Lib.hid (show decide (u < v) = false from decide_eq_false hlt2)
        have HN := Lib.hid (show ∀ j, k - 1 ≤ j → j + 1 < zs.length → f j ≤ f (j + 1) from fun j h1 h2 => by
          by_cases e : j = k - 1
          · subst e; rw [show k - 1 + 1 = k by omega, hu, hv]; omega
          · exact HS.out j (by omega) h2)
        clear hu hv hlt2
        go_wp2
        go_quiet (first | (go_at_call_of 208 (Value.int .i64 u); exact Calls.quiet_of_same (c_cmpLess_same u v _ HD.out)))
        go_wp2
        go_roundw
        case rel => exact ⟨k - 1, _, by omega, by first | go_num | rfl, HN.out, by rw [HW.out, World.drewN_drewN]⟩
        case measure => simp [intOf]; omega
    · obtain rfl : k = 0 := by omega
      have HR := Lib.hid (sortedB_yes (f := f) (n := zs.length) (fun i hi => HS.out i (by omega) hi))
      go_wp2
      go_ret
      exact ⟨by rw [HR.out]; rfl, _, HW.out⟩
theorem c_slIsNaN (x : Int) (w : World) : Calls Try.prog 209 #[.int .i64 x] w fun e w' => e = .returned (.bool false) ∧ w = w' := by
  go_enter Try.func209, Try.ntmps209
  go_wp2
  go_ret
  exact ⟨rfl, rfl⟩
def RetPos (p : Nat) (w : World) (e : Ending) (w' : World) : Prop := ∃ b, e = .returned (.tuple #[.int .i64 (p : Nat), .bool b]) ∧ w = w'
set_option maxHeartbeats 1000000 in
theorem c_BinarySearch (a : Option Addr) (n cap : Nat) (zs : List Int) (t : Int) (w : World) (hn : n ≤ 1048576) (h1 : 1 ≤ n) (hs : sortedB (atZ zs) n = true) (h : Reads w a n (ints zs)) :
    Calls Try.prog 103 #[.slice a n cap, .int .i64 t] w (RetPos (posN (atZ zs) t n) w) := by
  obtain ⟨hzl, hr⟩ := h.int
  rcases hr with h0 | ⟨b, off, rfl, hc⟩
  · omega
  have HC := Lib.hid (show ∀ i, i < n → w.cell? ⟨b, off + i, none⟩ = some (.int .i64 (atZ zs i)) from hc)
  obtain ⟨f, hf⟩ : ∃ f, atZ zs = f := ⟨_, rfl⟩
  rw [hf] at HC hs ⊢
  have HS := Lib.hid hs
  clear hc h hf hs hzl
  go_enter Try.func103, Try.ntmps103
  go_wp2
  go_loop [7, 8] (fun x y => ∃ i j : Nat, x = .int .i64 i ∧ y = .int .i64 j ∧ i ≤ j ∧ j ≤ n ∧ (∀ k, k < i → f k < t) ∧ (∀ k, j ≤ k → k < n → t ≤ f k)) (fun x y => (intOf y).toNat - (intOf x).toNat)
  case atStart => exact ⟨0, n, rfl, rfl, Nat.zero_le _, Nat.le_refl _, fun k h => by omega, fun k h1 h2 => by omega⟩
  case round =>
    obtain ⟨i, j, rfl, rfl, hij, hjn, hlo, hhi⟩ := hrel
    have HL := Lib.hid hlo
    have HH := Lib.hid hhi
    clear hlo hhi
    by_cases hlt : i < j
    · obtain ⟨m, hm⟩ : ∃ m, (i + j) / 2 = m := ⟨_, rfl⟩
      have hmi : ((i : Int) + (j : Int)) / 2 = (m : Int) := by omega
      have hm1 : i ≤ m := by omega
      have hm2 : m < j := by omega
      have hcm := HC.out m (by omega)
      obtain ⟨u, hu⟩ : ∃ u, f m = u := ⟨_, rfl⟩
      rw [hu] at hcm
      have hlt' : (i : Int) < (j : Int) := by omega
      by_cases hlt2 : u < t
      · have HD := Lib.hid (show decide (u < t) = true from decide_eq_true hlt2)
        have HN := Lib.hid (show ∀ k, k < m + 1 → f k < t from fun k hk => by
          have := sorted_to HS.out (show k ≤ m by omega) (show m < n by omega)
          rw [hu] at this; omega)
        clear hu hlt2 hm
        go_wp2_with (go_at_call 208; refine (c_cmpLess u t _ HD.out).mono ?_; rintro e w' ⟨rfl, rfl⟩)
        go_round
        case rel => exact ⟨m + 1, j, by go_num, rfl, by omega, hjn, HN.out, HH.out⟩
        case measure => simp [intOf]; omega
      · have HD := Lib.hid (show decide (u < t) = false from decide_eq_false hlt2)
        have HN := Lib.hid (show ∀ k, m ≤ k → k < n → t ≤ f k from fun k h1 h2 => by
          have := sorted_to HS.out h1 h2
          rw [hu] at this; omega)
        clear hu hlt2 hm
        go_wp2_with (go_at_call 208; refine (c_cmpLess u t _ HD.out).mono ?_; rintro e w' ⟨rfl, rfl⟩)
        go_round
        case rel => exact ⟨i, m, rfl, rfl, by omega, by omega, HL.out, HN.out⟩
        case measure => simp [intOf]; omega
    · obtain rfl : i = j := by omega
      have HP := Lib.hid (show posN f t n = i from (posN_is f t n).eq ⟨hjn, HL.out, fun h => HH.out i (Nat.le_refl _) h⟩)
      by_cases hin : i < n
      · have hcm := HC.out i hin
        obtain ⟨u, hu⟩ : ∃ u, f i = u := ⟨_, rfl⟩
        rw [hu] at hcm
        have hin' : (i : Int) < (n : Int) := by omega
        by_cases hut : u = t
        · subst hut
          clear hin
          go_wp2
          go_ret2
          exact ⟨_, by rw [HP.out]; rfl, rfl⟩
        · clear hin
          go_wp2_with (go_at_call 209; refine (c_slIsNaN _ _).mono ?_; rintro e w' ⟨rfl, rfl⟩)
          go_ret2
          exact ⟨_, by rw [HP.out]; rfl, rfl⟩
      · have hin' : ¬ (i : Int) < (n : Int) := by omega
        clear hin
        go_wp2
        go_ret2
        exact ⟨_, by rw [HP.out]; rfl, rfl⟩
theorem c_IsSorted_of (a : Option Addr) (n cap : Nat) (zs : List Int) (w : World) {b : Bool} (hb : sortedB (atZ zs) n = b) (hn : n ≤ 1048576) (h1 : 1 ≤ n) (h : Reads w a n (ints zs)) :
    Calls Try.prog 102 #[.slice a n cap] w fun e w' => e = .returned (.bool b) ∧ ∃ q, w' = w.drewN q := by
  subst hb; exact c_IsSorted a n cap zs w hn h1 h
theorem c_impl_HashOf_to (key salt : Int) (w : World) {b : Bool} {v : Int} (h : (keyB key && keyB salt) = b) (hv : hashV key salt = v) : Calls Try.prog 19 #[.int .i64 key, .int .i64 salt] w fun e w' => e = .returned (.tuple #[.int .i64 v, .bool b]) ∧ w = w' := by
  subst h; subst hv; exact c_impl_HashOf key salt w
theorem c_BinarySearch_of (a : Option Addr) (n cap : Nat) (zs : List Int) (t : Int) (w : World) {p : Nat} (hp : posN (atZ zs) t n = p) (hn : n ≤ 1048576) (h1 : 1 ≤ n) (hs : sortedB (atZ zs) n = true) (h : Reads w a n (ints zs)) :
    Calls Try.prog 103 #[.slice a n cap, .int .i64 t] w (RetPos p w) := by
  subst hp; exact c_BinarySearch a n cap zs t w hn h1 hs h
theorem Reads.drewN {w : World} {a : Option Addr} {n : Nat} {vs : List Value} (h : Reads w a n vs) (q : Nat) : Reads (w.drewN q) a n vs := h
set_option maxHeartbeats 1000000 in
theorem c_impl_RingHome (key salt : Int) (a : Option Addr) (n cap : Nat) (zs : List Int) (w : World) (hm : n ≤ maxLen) (h : Reads w a n (ints zs)) :
    Calls Try.prog 21 #[.int .i64 key, .int .i64 salt, .slice a n cap] w fun e w' => e = .returned (.tuple #[.int .i64 (ringV key salt zs), .bool (ringB key salt zs)]) ∧ Ext w w' := by
  have hlen : n = zs.length := h.int.1.symm
  have H := Lib.hid h
  cases hb : keyB key && keyB salt
  · have HB := Lib.hid hb
    have HR := Lib.hid (ringB_1 (zs := zs) hb)
    rw [ringV_no HR.out, HR.out]
    clear hb h hlen
    go_enter Try.func21, Try.ntmps21
    go_wp2_with (go_at_call 19; refine (c_impl_HashOf_to key salt _ HB.out (hashV_no HB.out)).mono ?_; rintro e w' ⟨rfl, rfl⟩)
    go_ret2
    exact ⟨rfl, Ext.refl _⟩
  · have HB := Lib.hid hb
    have hb2 : keyB key = true ∧ keyB salt = true := by simpa using hb
    obtain ⟨v, hv⟩ : ∃ v : Int, ((hashN key salt : Nat) : Int) = v := ⟨_, rfl⟩
    have HV := Lib.hid (show hashV key salt = v by rw [hashV_yes hb2.1 hb2.2, hv])
    cases hks : keysB zs
    · have HKS := Lib.hid hks
      have HR := Lib.hid (ringB_2 (key := key) (salt := salt) hks)
      rw [ringV_no HR.out, HR.out]
      clear hb h hlen hks hv hb2
      go_enter Try.func21, Try.ntmps21
      go_wp2_with fail
      refine (c_impl_HashOf_to key salt _ HB.out HV.out).mono ?_; rintro e w' ⟨rfl, rfl⟩
      go_wp2_with (go_at_call 98; refine (c_impl_AreKeys_of _ _ _ zs _ HKS.out hm H.out).mono ?_; rintro e w' ⟨rfl, rfl⟩)
      go_ret2
      exact ⟨rfl, Ext.refl _⟩
    · have HKS := Lib.hid hks
      have hzl := keysB_len hks
      by_cases h0 : n = 0
      · have HR := Lib.hid (ringB_3 (key := key) (salt := salt) (zs := zs) (by omega))
        rw [ringV_no HR.out, HR.out]
        clear hb hks hv hb2
        subst h0
        clear h hlen
        go_enter Try.func21, Try.ntmps21
        go_wp2_with fail
        refine (c_impl_HashOf_to key salt _ HB.out HV.out).mono ?_; rintro e w' ⟨rfl, rfl⟩
        go_wp2_with (go_at_call 98; refine (c_impl_AreKeys_of _ _ _ zs _ HKS.out hm H.out).mono ?_; rintro e w' ⟨rfl, rfl⟩)
        go_ret2
        exact ⟨rfl, Ext.refl _⟩
      · have h1 : 1 ≤ n := by omega
        have hn2 : n ≤ 256 := by omega
        cases hso : sortedB (atZ zs) n
        · have HSO := Lib.hid hso
          have HR := Lib.hid (ringB_4 (key := key) (salt := salt) (zs := zs) (by rw [← hlen]; exact hso))
          rw [ringV_no HR.out, HR.out]
          clear hb h hlen hks hv hb2 hso h0 hzl
          go_enter Try.func21, Try.ntmps21
          go_wp2_with fail
          refine (c_impl_HashOf_to key salt _ HB.out HV.out).mono ?_; rintro e w' ⟨rfl, rfl⟩
          go_wp2_with fail
          refine (c_impl_AreKeys_of _ _ _ zs _ HKS.out hm H.out).mono ?_; rintro e w' ⟨rfl, rfl⟩
          go_wp2_with fail
          refine (c_IsSorted_of _ _ _ zs _ HSO.out (by omega) h1 H.out).mono ?_; rintro e w' ⟨rfl, q, rfl⟩
          go_wp2
          go_ret2
          exact ⟨rfl, Ext.drewN _ _⟩
        · have HSO := Lib.hid hso
          have HR := Lib.hid (ringB_mk hb hks (by omega) (by rw [← hlen]; exact hso))
          rw [ringV_yes HR.out, HR.out, hv, ← hlen]
          obtain ⟨p, hp⟩ : ∃ p, posN (atZ zs) v n = p := ⟨_, rfl⟩
          have hpn : p ≤ n := by rw [← hp]; exact (posN_is _ _ _).le
          have HP := Lib.hid hp
          rw [hp]
          have hmod : (p : Int) % (n : Int) = ((p % n : Nat) : Int) := (Int.natCast_emod p n).symm
          have HM := Lib.hid hmod
          clear hb h hlen hks hv hb2 hso h0 hzl hp hmod
          go_enter Try.func21, Try.ntmps21
          go_wp2_with fail
          refine (c_impl_HashOf_to key salt _ HB.out HV.out).mono ?_; rintro e w' ⟨rfl, rfl⟩
          go_wp2_with fail
          refine (c_impl_AreKeys_of _ _ _ zs _ HKS.out hm H.out).mono ?_; rintro e w' ⟨rfl, rfl⟩
          go_wp2_with fail
          refine (c_IsSorted_of _ _ _ zs _ HSO.out (by omega) h1 H.out).mono ?_; rintro e w' ⟨rfl, q, rfl⟩
          go_wp2_with fail
          refine (c_BinarySearch_of _ _ _ zs v _ HP.out (by omega) h1 HSO.out (H.out.drewN q)).mono ?_; rintro e w' ⟨bb, rfl, rfl⟩
          go_wp2
          go_ret2
          exact ⟨by rw [← HM.out]; rfl, Ext.drewN _ _⟩
end Go.Proofs.Ytibldgcfplpdkaa
