/- The walk of the law FnHomes. -/
import Derived.Test.YtibldgcfplpdkaaSre
import Derived.Test.YtibldgcfplpdkaaHmp
import Derived.Test.YtibldgcfplpdkaaRin
import Derived.Test.YtibldgcfplpdkaaJms
import Derived.WalkLawsBesides
namespace Go.Proofs.Ytibldgcfplpdkaa
open Go.ChangeShapes Go.WideShapes Go.ChangeAt Go.RowKit
set_option linter.unusedVariables false
theorem DifP.keys {n : Nat} {zs : List Int} (h : DifP n zs) (hl : zs.length = n) (hn : n ≤ 256) : keysB zs = true := by
  obtain ⟨k, h⟩ := h
  unfold keysB
  rw [decide_eq_true (by omega), Bool.true_and, List.all_eq_true]
  intro x hx
  obtain ⟨i, hi, rfl⟩ := List.getElem_of_mem hx
  have h1 := h.b i (by omega)
  have h2 := h.le
  unfold getI at h1
  rw [List.getElem?_eq_getElem hi] at h1
  simp only [Option.getD_some] at h1
  exact keyB_true h1.1 (by omega)
theorem keysB_take {zs : List Int} (h : keysB zs = true) (k : Nat) : keysB (zs.take k) = true := by
  unfold keysB at *
  simp only [Bool.and_eq_true, decide_eq_true_eq, List.all_eq_true] at *
  exact ⟨by rw [List.length_take]; omega, fun x hx => h.2 x (List.mem_of_mem_take hx)⟩
theorem reads_takeI {w : World} {a : Option Addr} {n k : Nat} {zs : List Int} (h : Reads w a n (ints zs)) (hk : k ≤ n) : Reads w a k (ints (zs.take k)) := by
  have hl := h.int.1
  refine ⟨by rw [ints_length, List.length_take]; omega, ?_⟩
  rcases h.2 with h0 | ⟨b, off, rfl, hc⟩
  · exact .inl (by omega)
  · refine .inr ⟨b, off, rfl, fun i hi => ?_⟩
    rw [hc i (by omega), ints_get _ _ (by omega), ints_get _ _ (by rw [List.length_take]; omega), List.getElem?_take, if_pos hi]
theorem fH_take (key : Int) (zs : List Int) (k i : Nat) (h : i < k) : fH key (zs.take k) i = fH key zs i := by
  unfold fH; rw [List.getElem?_take, if_pos h]
/-- the facts on homes -/
theorem home_all {key : Int} {zs : List Int} {n : Nat} (hk : keyB key = true) (hz : keysB zs = true) (hl : zs.length = n) (h2 : 2 ≤ n) (h7 : n ≤ 64) :
    ∃ H L : Nat, homeB key zs = true ∧ homeV key zs = (H : Int) ∧ homeB key (zs.take (n - 1)) = true ∧ homeV key (zs.take (n - 1)) = (L : Int) ∧ H < n ∧ L < n - 1 ∧ (H = n - 1 ∨ H = L) ∧ ∀ i, i < n → (hashN key (getI zs i) : Int) ≤ hashN key (getI zs H) := by
  have hb := homeB_mk hk hz (show 1 ≤ zs.length ∧ zs.length ≤ 64 by omega)
  have hlt : (zs.take (n - 1)).length = n - 1 := by rw [List.length_take]; omega
  have hb' := homeB_mk (zs := zs.take (n - 1)) hk (keysB_take hz _) (by rw [hlt]; omega)
  refine ⟨leastAt (fH key zs) n, leastAt (fH key zs) (n - 1), hb, by rw [homeV_yes hb, hl], hb', ?_, leastAt_le _ _ (by omega), leastAt_le _ _ (by omega), ?_, fun i hi => ?_⟩
  · rw [homeV_yes hb', hlt, leastAt_congr (fun i hi => fH_take key zs (n - 1) i hi)]
  · obtain ⟨m, rfl⟩ : ∃ m, n = m + 1 := ⟨n - 1, by omega⟩
    exact home_next (fH key zs) m
  · have := leastAt_min (fH key zs) n i hi
    obtain ⟨H, hH⟩ : ∃ H, leastAt (fH key zs) n = H := ⟨_, rfl⟩
    rw [hH] at this ⊢
    unfold fH at this
    unfold getI
    omega
def ringPts : List Int := [1000000000, 2000000000, 3000000000]
theorem ring_at {key salt : Int} (hk : keyB key = true) (hs : keyB salt = true) :
    ∃ V : Int, ringB key salt ringPts = true ∧ ringV key salt ringPts = V ∧ (((hashN key salt : Nat) : Int) ≤ 1000000000 ∧ V = 0 ∨ 1000000000 < ((hashN key salt : Nat) : Int) ∧ ((hashN key salt : Nat) : Int) ≤ 2000000000 ∧ V = 1 ∨ 2000000000 < ((hashN key salt : Nat) : Int) ∧ ((hashN key salt : Nat) : Int) ≤ 3000000000 ∧ V = 2 ∨ 3000000000 < ((hashN key salt : Nat) : Int) ∧ V = 0) := by
  have hb : ringB key salt ringPts = true := ringB_mk (by rw [hk, hs]; rfl) (by decide) (by decide) (sortedB_yes (fun i hi => by
    have : ringPts.length = 3 := rfl
    match i, hi with
    | 0, _ => decide
    | 1, _ => decide
    | i + 2, hi => omega))
  refine ⟨_, hb, rfl, ?_⟩
  rw [ringV_yes hb]
  obtain ⟨p, hp⟩ : ∃ p, posN (atZ ringPts) (hashN key salt : Nat) ringPts.length = p := ⟨_, rfl⟩
  have hP := posN_is (atZ ringPts) (hashN key salt : Nat) ringPts.length
  rw [hp] at hP ⊢
  have l3 : ringPts.length = 3 := rfl
  rw [l3] at hP ⊢
  have e0 : atZ ringPts 0 = 1000000000 := rfl
  have e1 : atZ ringPts 1 = 2000000000 := rfl
  have e2 : atZ ringPts 2 = 3000000000 := rfl
  have hh : ∀ j, j < p → atZ ringPts j < ((hashN key salt : Nat) : Int) := hP.below
  have hr : p < 3 → ((hashN key salt : Nat) : Int) ≤ atZ ringPts p := hP.here
  have hpl := hP.le
  obtain ⟨h, hH⟩ : ∃ h : Int, ((hashN key salt : Nat) : Int) = h := ⟨_, rfl⟩
  rw [hH] at hh hr ⊢
  clear hP hp hH hb
  match p, hpl with
  | 0, _ => have := hr (by omega); rw [e0] at this; left; exact ⟨this, rfl⟩
  | 1, _ => have := hr (by omega); rw [e1] at this; have h0 := hh 0 (by omega); rw [e0] at h0; right; left; exact ⟨h0, this, rfl⟩
  | 2, _ => have := hr (by omega); rw [e2] at this; have h0 := hh 1 (by omega); rw [e1] at h0; right; right; left; exact ⟨h0, this, rfl⟩
  | 3, _ => have h0 := hh 2 (by omega); rw [e2] at h0; right; right; right; exact ⟨h0, rfl⟩
  | p + 4, h4 => omega
theorem c_impl_HashOf_h (key salt h : Int) (w : World) (hk : keyB key = true) (hs : keyB salt = true) (hv : ((hashN key salt : Nat) : Int) = h) : Calls Try.prog 19 #[.int .i64 key, .int .i64 salt] w fun e w' => e = .returned (.tuple #[.int .i64 h, .bool true]) ∧ w = w' := by
  refine (c_impl_HashOf_of key salt w (b := true) (by rw [hk, hs]; rfl) (hashV_yes hk hs)).mono ?_
  rw [hv]; exact fun _ _ h => h
theorem ring_reads (w : World) (t : TypeId) : Reads (w.alloc (.cells #[.int .i64 1000000000, .int .i64 2000000000, .int .i64 3000000000] t)) (some ⟨w.heap.size, 0, none⟩) 3 (ints ringPts) := by
  have hb := Box.alloc w #[.int .i64 1000000000, .int .i64 2000000000, .int .i64 3000000000] t
  refine ⟨rfl, .inr ⟨_, 0, rfl, fun i hi => ?_⟩⟩
  rw [Nat.zero_add, hb.cell i]
  match i, hi with
  | 0, _ => rfl
  | 1, _ => rfl
  | 2, _ => rfl
theorem info_boolH : (Try.prog.info? 4).map (fun i => (i.zero, i.size, i.bytes)) = some (some (.bool false), 1, 1) := by kernel_rfl
/-- which places have been seen -/
def seenF (salt : Int) (n k i : Nat) : Value := .bool (decide (∃ j, j < k ∧ swP salt n j = i))
theorem seenF_zero (salt : Int) (n i : Nat) : Value.bool false = seenF salt n 0 i := by
  unfold seenF; rw [decide_eq_false (by rintro ⟨j, hj, _⟩; omega)]
theorem seenF_new {salt : Int} {n k : Nat} (hs : keyB salt = true) (h1 : n ≤ 65536) (hk : k < n) : seenF salt n k (swP salt n k) = .bool false := by
  unfold seenF; rw [decide_eq_false]
  rintro ⟨j, hj, he⟩
  have := swP_inj hs h1 (by omega) hk he
  omega
theorem seenF_step {salt : Int} {n k b : Nat} {t : TypeId} {w : World} (h : w.rowIs b t n (seenF salt n k)) : (w.setCell ⟨b, swP salt n k, none⟩ (.bool true)).rowIs b t n (seenF salt n (k + 1)) := by
  refine (h.set _ _).congr fun i hi => ?_
  unfold seenF
  by_cases e : i = swP salt n k
  · subst e; rw [if_pos rfl, decide_eq_true]; exact ⟨k, by omega, rfl⟩
  · rw [if_neg e]
    congr 1
    rw [decide_eq_decide]
    constructor
    · rintro ⟨j, hj, he⟩; exact ⟨j, by omega, he⟩
    · rintro ⟨j, hj, he⟩
      refine ⟨j, ?_, he⟩
      by_cases e2 : j = k
      · subst e2; exact absurd he.symm e
      · omega
theorem mul_key {x y : Nat} (hx : x < 256) (hy : y < 256) : keyB ((x : Int) * 65537 + (y : Int)) = true := keyB_true (by omega) (by omega)
set_option maxRecDepth 100000 in
set_option maxHeartbeats 8000000 in
theorem walk_FnHomes (a0 : Option Addr) (len0 cap0 : Nat) (z0 : List Int) (a1 : Option Addr) (len1 cap1 : Nat) (z1 : List Int) (w : World) (w0 : IsRow .u8 w a0 len0 cap0 z0) (w1 : IsRow .u8 w a1 len1 cap1 z1) :
    Calls Try.prog 3 #[.slice a0 len0 cap0, .slice a1 len1 cap1] w fun e w' => e = .returned (.bool true) ∧ Below w.heap.size w w' := by
  have m0 : len0 ≤ maxLen := by rcases w0 with ⟨-, rfl, -⟩ | ⟨x, -, h1, h2, -⟩ <;> unfold maxLen at * <;> omega
  have m1 : len1 ≤ maxLen := by rcases w1 with ⟨-, rfl, -⟩ | ⟨x, -, h1, h2, -⟩ <;> unfold maxLen at * <;> omega
  by_cases hlong : len0 ≤ 48 ∧ len1 ≤ 48
  case neg =>
    have HL := Lib.hid hlong
    clear hlong w0 w1
    go_enter Try.func3, Try.ntmps3
    go_wp2_with fail
    refine (c_r8Long_yes _ _ _ _ _ _ _ HL.out m0 m1).mono ?_; rintro e w' ⟨rfl, rfl⟩
    go_wp2
    go_ret
    exact ⟨rfl, Below.refl _ _⟩
  obtain ⟨l0, l1⟩ := hlong
  obtain ⟨bs0, hb0⟩ : ∃ bs, z0.take len0 = bs := ⟨_, rfl⟩
  obtain ⟨bs1, hb1⟩ : ∃ bs, z1.take len1 = bs := ⟨_, rfl⟩
  have C0 := Lib.hid (show Code w a0 len0 bs0 from hb0 ▸ Code.of (by omega) w0)
  have C1 := Lib.hid (show Code w a1 len1 bs1 from hb1 ▸ Code.of (by omega) w1)
  clear w0 w1 m0 m1 hb0 hb1
  go_enter Try.func3, Try.ntmps3
  go_wp2_with fail
  refine (c_r8Long_no _ _ _ _ _ _ _ l0 l1).mono ?_; rintro e w' ⟨rfl, rfl⟩
  go_wp2_with fail
  refine (c_r8At a1 len1 cap1 bs1 40 6 _ (by decide) (by decide) (by decide) C1.out).mono ?_; rintro e w' ⟨q0, hq0, rfl, rfl⟩
  go_wp2_with fail
  refine (c_R8Different a0 len0 cap0 bs0 (2 + q0) _ (by omega) C0.out).mono ?_; rintro e wa ⟨an, cn, zs, rfl, hzl, hP, ho, hx⟩
  obtain ⟨n, hn⟩ : ∃ n, 2 + q0 = n := ⟨_, rfl⟩
  rw [hn] at hzl hP ho ⊢
  have n2 : 2 ≤ n := by omega
  have n7 : n ≤ 7 := by omega
  have NI : (2 : Int) ≤ (n : Int) ∧ (n : Int) ≤ 7 := by omega
  have HKS := Lib.hid (hP.keys hzl (by omega))
  have HZL := Lib.hid hzl
  have O := Lib.hid ho
  have X := Lib.hid hx
  clear hP hzl ho hx hn hq0
  go_wp2_with fail
  refine (c_r8At a1 len1 cap1 bs1 41 256 _ (by decide) (by decide) (by decide) (C1.out.on X.out)).mono ?_; rintro e w' ⟨x1, hx1, rfl, rfl⟩
  have ix1 : (x1 : Int) ≤ 255 := by omega
  go_wp2_with fail
  refine (c_r8At a1 len1 cap1 bs1 42 256 _ (by decide) (by decide) (by decide) (C1.out.on X.out)).mono ?_; rintro e w' ⟨x2, hx2, rfl, rfl⟩
  have ix2 : (x2 : Int) ≤ 255 := by omega
  go_wp2_with fail
  have HKY := Lib.hid (mul_key hx1 hx2)
  obtain ⟨key, hkey⟩ : ∃ key : Int, (x1 : Int) * 65537 + (x2 : Int) = key := ⟨_, rfl⟩
  rw [hkey] at HKY ⊢
  clear hkey hx1 hx2 ix1 ix2
  obtain ⟨H, L, e1, e2, e3, e4, hH, hL, hor, hmin⟩ := home_all HKY.out HKS.out HZL.out n2 (by omega)
  have HE1 := Lib.hid e1
  have HE2 := Lib.hid e2
  have HE3 := Lib.hid e3
  have HE4 := Lib.hid e4
  have HOR := Lib.hid hor
  have HMIN := Lib.hid hmin
  clear e1 e2 e3 e4 hor hmin
  refine (c_impl_HomeOf key an n cn zs _ (by unfold maxLen; omega) O.out.reads).mono ?_
  rw [HE1.out, HE2.out]
  rintro e wb ⟨rfl, hx⟩
  have O2 := Lib.hid (O.out.on hx)
  have X2 := Lib.hid (X.out.trans hx)
  clear hx
  have hcap := O2.out.2.1
  have nm : (n : Int) - 1 = ((n - 1 : Nat) : Int) := by omega
  go_wp2_with fail
  have htl : (zs.take (n - 1)).length = n - 1 := by rw [List.length_take, HZL.out]; omega
  have HTL := Lib.hid htl
  clear htl
  refine (c_impl_HomeOf key an (n - 1) cn (zs.take (n - 1)) _ (by unfold maxLen; omega) (reads_takeI O2.out.reads (by omega))).mono ?_
  rw [HE3.out, HE4.out]
  rintro e wc ⟨rfl, hx⟩
  have O3 := Lib.hid (O2.out.on hx)
  have X3 := Lib.hid (X2.out.trans hx)
  clear hx
  have h1 : (0 : Int) ≤ (H : Int) ∧ (H : Int) < (n : Int) := by omega
  have h2 : (0 : Int) ≤ (L : Int) ∧ (L : Int) < (n : Int) - 1 := by omega
  go_upto_region 8 with fail
  go_cut [104] from 69 to 104 (fun s wx => s = .bool false ∧ wx = wc)
  case first =>
    clear nm
    by_cases hA : n = H + 1
    · subst hA
      have c0 : ¬ (H : Int) < 0 := by omega
      have c3 : ¬ (L : Int) < 0 := by omega
      have c4 : (L : Int) < (H : Int) := by omega
      clear h1 h2
      go_wp2_with fail
      go_meet
      exact ⟨by first | rfl | (congr 1; simp; omega), rfl⟩
    · obtain rfl : H = L := by have := HOR.out; omega
      have c1 : ¬ (H : Int) = (n : Int) - 1 := by omega
      have c2 : ((H : Int) == (n : Int) - 1) = false := by simpa using c1
      have c4 : (H : Int) < (n : Int) - 1 := by omega
      clear hA
      go_wp2_with fail
      go_meet
      exact ⟨by first | rfl | (congr 1; simp; omega), rfl⟩
  case rest =>
    obtain ⟨rfl, hwc⟩ := hcut
    subst hwc
    clear h1 h2 nm
    have hHI : (0 : Int) ≤ (H : Int) ∧ (H : Int) < (n : Int) := by omega
    go_wp2
    go_loopw [12] (fun i wr => ∃ k : Nat, k ≤ n ∧ i = .int .i64 (k : Int) ∧ Own 2 wr w.heap.size wa.heap.size an n cn (ints zs) ∧ Ext w wr) (fun i _ => n - (intOf i).toNat)
    case atStart => exact ⟨0, Nat.zero_le _, rfl, O3.out, X3.out⟩
    case round =>
      obtain ⟨k, hk, rfl, hown, hext⟩ := hrel
      have HO := Lib.hid hown
      have HX := Lib.hid hext
      obtain ⟨b, off, rfl, hc⟩ : ∃ b off, an = some ⟨b, off, none⟩ ∧ ∀ i, i < n → wr.cell? ⟨b, off + i, none⟩ = (ints zs)[i]? := by
        rcases hown.reads.2 with h0 | ⟨b, off, h1, h2⟩
        · omega
        · exact ⟨b, off, h1, h2⟩
      have HC := Lib.hid hc
      clear hown hext hc
      by_cases hlt : k < n
      · have hltI : (k : Int) < (n : Int) := by omega
        obtain ⟨x, hx⟩ : ∃ x, getI zs k = x := ⟨_, rfl⟩
        obtain ⟨y, hy⟩ : ∃ y, getI zs H = y := ⟨_, rfl⟩
        have hcx : wr.cell? ⟨b, off + k, none⟩ = some (.int .i64 x) := by rw [HC.out k hlt, ints_get _ _ (by rw [HZL.out]; exact hlt), ← hx]; rfl
        have hcy : wr.cell? ⟨b, off + H, none⟩ = some (.int .i64 y) := by rw [HC.out H hH, ints_get _ _ (by rw [HZL.out]; exact hH), ← hy]; rfl
        have KX := Lib.hid (show keyB x = true by rw [← hx]; exact keysB_at HKS.out (by rw [HZL.out]; exact hlt))
        have KY := Lib.hid (show keyB y = true by rw [← hy]; exact keysB_at HKS.out (by rw [HZL.out]; exact hH))
        have hle := HMIN.out k hlt
        rw [hx, hy] at hle
        obtain ⟨hX, hhX⟩ : ∃ h : Int, ((hashN key x : Nat) : Int) = h := ⟨_, rfl⟩
        obtain ⟨hY, hhY⟩ : ∃ h : Int, ((hashN key y : Nat) : Int) = h := ⟨_, rfl⟩
        rw [hhX, hhY] at hle
        have VX := Lib.hid hhX
        have VY := Lib.hid hhY
        have hle' : ¬ hY < hX := by omega
        clear hx hy hhX hhY hle
        go_wp2_with fail
        refine (c_impl_HashOf_h key x hX _ HKY.out KX.out VX.out).mono ?_; rintro e w' ⟨rfl, rfl⟩
        go_wp2_with fail
        refine (c_impl_HashOf_h key y hY _ HKY.out KY.out VY.out).mono ?_; rintro e w' ⟨rfl, rfl⟩
        go_wp2
        go_roundw
        case rel => exact ⟨k + 1, by omega, by go_num, HO.out, HX.out⟩
        case measure => simp [intOf]; omega
      · obtain rfl : k = n := by omega
        clear hlt hk
        go_wp2_with fail
        refine (c_r8At a1 len1 cap1 bs1 43 100 _ (by decide) (by decide) (by decide) (C1.out.on HX.out)).mono ?_; rintro e w' ⟨cc, hcc, rfl, rfl⟩
        have icc : (cc : Int) ≤ 99 := by omega
        go_wp2_with fail
        obtain ⟨J, hJ⟩ : ∃ J, jumpN key (cc + 1) = J := ⟨_, rfl⟩
        obtain ⟨N2, hN2⟩ : ∃ N2, jumpN key (cc + 2) = N2 := ⟨_, rfl⟩
        have j1 := jumpN_in key (n := cc + 1) (by omega)
        have j2 := jumpN_next key (n := cc + 1) (by omega)
        rw [hJ] at j1 j2
        rw [hN2] at j2
        have a1' : ((cc + 1 : Nat) : Int) = 1 + (cc : Int) := by omega
        have a2' : ((cc + 2 : Nat) : Int) = 1 + (cc : Int) + 1 := by omega
        have R1 := Lib.hid (show jumpR key (1 + (cc : Int)) = (J, true) by rw [← a1', jumpR_is HKY.out (by omega) (by omega), hJ])
        have R2 := Lib.hid (show jumpR key (1 + (cc : Int) + 1) = (N2, true) by rw [← a2', jumpR_is HKY.out (by omega) (by omega), hN2])
        have R3 := Lib.hid (show jumpR key 1 = (0, true) by
          have h1 := jumpN_in key (n := 1) (by omega)
          have h2 := jumpR_is (n := 1) HKY.out (by omega) (by omega)
          rw [show jumpN key 1 = 0 by omega] at h2
          exact h2)
        rw [a1'] at j1 j2
        have JN := Lib.hid j2
        clear hJ hN2 j2 a1' a2'
        refine (c_impl_JumpHome_e key (1 + (cc : Int)) _ R1.out).mono ?_; rintro e w' ⟨rfl, rfl⟩
        go_wp2_with fail
        refine (c_impl_JumpHome_e key (1 + (cc : Int) + 1) _ R2.out).mono ?_; rintro e w' ⟨rfl, rfl⟩
        go_wp2_with fail
        refine (c_impl_JumpHome_e key 1 _ R3.out).mono ?_; rintro e w' ⟨rfl, rfl⟩
        obtain ⟨wd, hwd⟩ : ∃ z, z = wr := ⟨_, rfl⟩
        subst hwd
        go_upto_region 21 with fail
        go_cut [192] from 160 to 192 (fun s wx => s = .bool false ∧ wx = wd)
        case first =>
          by_cases hA : N2 = J
          · subst hA
            clear hcc
            go_wp2_with fail
            go_meet
            exact ⟨by first | rfl | (congr 1; simp; omega), rfl⟩
          · obtain rfl : N2 = 1 + (cc : Int) := by have := JN.out; omega
            have hA' : ¬ J = 1 + (cc : Int) := fun h => hA h.symm
            go_wp2_with fail
            go_meet
            exact ⟨by first | rfl | (congr 1; simp; omega), rfl⟩
        case rest =>
          obtain ⟨rfl, hwc⟩ := hcut
          subst hwc
          clear j1 icc
          go_wp2_with fail
          refine (c_r8At a1 len1 cap1 bs1 44 256 _ (by decide) (by decide) (by decide) (C1.out.on HX.out)).mono ?_; rintro e w' ⟨sa, hsa, rfl, rfl⟩
          have HSA := Lib.hid (show keyB (sa : Int) = true from keyB_true (by omega) (by omega))
          obtain ⟨hh, hhh⟩ : ∃ h : Int, ((hashN key (sa : Int) : Nat) : Int) = h := ⟨_, rfl⟩
          obtain ⟨V, v1, v2, v3⟩ := ring_at HKY.out HSA.out
          rw [hhh] at v3
          have HHH := Lib.hid hhh
          have V1 := Lib.hid v1
          have V2 := Lib.hid v2
          have V3 := Lib.hid v3
          have hh0 : (0 : Int) ≤ hh := by rw [← hhh]; omega
          clear hhh v1 v2 v3
          go_wp2_with fail
          refine (c_impl_HashOf_h key _ hh _ HKY.out HSA.out HHH.out).mono ?_; rintro e w' ⟨rfl, rfl⟩
          go_wp2_with fail
          refine (c_impl_RingHome key _ _ 3 _ ringPts _ (by unfold maxLen; omega) (ring_reads _ _)).mono ?_
          rw [V1.out, V2.out]
          rintro e we ⟨rfl, hx⟩
          have HX2 := Lib.hid (show Ext w we from (HX.out.stepA _).trans hx)
          clear hx
          have hcase : hh ≤ 1000000000 ∨ 1000000000 < hh ∧ hh ≤ 2000000000 ∨ 2000000000 < hh ∧ hh ≤ 3000000000 ∨ 3000000000 < hh := by omega
          have HWE := Lib.hid (Ext.refl we)
          rcases hcase with hc | ⟨hc1, hc2⟩ | ⟨hc1, hc2⟩ | hc
          · obtain rfl : V = 0 := by have := V3.out; omega
            have d1 : decide (1000000000 < hh) = false := decide_eq_false (by omega)
            have d2 : decide (2000000000 < hh) = false := decide_eq_false (by omega)
            clear hc hh0
            go_wp2_with fail
            refine (c_r8At a1 len1 cap1 bs1 45 60 _ (by decide) (by decide) (by decide) (C1.out.on HX2.out)).mono ?_; rintro e w' ⟨sz, hsz, rfl, rfl⟩
            have isz : (sz : Int) ≤ 59 := by omega
            obtain ⟨m, hm⟩ : ∃ m, 1 + sz = m := ⟨_, rfl⟩
            have hmI : 1 + (sz : Int) = (m : Int) := by omega
            have m1 : 1 ≤ m := by omega
            have m60 : m ≤ 60 := by omega
            have HMI := Lib.hid hmI
            clear hm hsz hmI
            go_upto_region 35 with fail
            rw [HMI.out]
            have hmk := run_make_row' (P := Try.prog) 31 4 (.bool false) 1 Try.underlying31 info_boolH rfl .i64 .i64 m (by omega) (by omega)
            have hmI' : (m : Int) ≤ 60 := by omega
            clear isz
            go_wp2_with fail
            have HX3 := Lib.hid (HX2.out.stepA (.cells (madeCells #[.bool false] m) 4))
            have hwes := Lib.hid HX2.out.size
            go_loopw [33] (fun i wr => ∃ j : Nat, j ≤ m ∧ i = .int .i64 (j : Int) ∧ wr.rowIs we.heap.size 4 m (seenF (sa : Int) m j) ∧ Ext w wr) (fun i _ => m - (intOf i).toNat)
            case atStart => exact ⟨0, Nat.zero_le _, rfl, (World.rowIs_made _ _ _ _).congr fun i _ => seenF_zero _ _ _, HX3.out⟩
            case round =>
              obtain ⟨j, hj, rfl, hrow, hext⟩ := hrel
              have HR := Lib.hid hrow
              have HE := Lib.hid hext
              clear hrow hext
              by_cases hlt : j < m
              · have hltI : (j : Int) < (m : Int) := by omega
                obtain ⟨p1, p2, p3⟩ := swP_all HSA.out (n := m) (k := j) (by omega) hlt
                have HNEW := Lib.hid (seenF_new HSA.out (n := m) (k := j) (by omega) hlt)
                have HSTEP := Lib.hid (fun (wx : World) (hx : wx.rowIs we.heap.size 4 m (seenF (sa : Int) m j)) => seenF_step hx)
                obtain ⟨P, hP⟩ : ∃ P, swP (sa : Int) m j = P := ⟨_, rfl⟩
                rw [hP] at p1 p2 p3 HNEW HSTEP
                have PB1 := Lib.hid (placeB_mk (k := (j : Int)) (n := (m : Int)) (salt := (sa : Int)) (by omega) (by omega) (by omega) (by omega) HSA.out)
                have PB2 := Lib.hid (placeB_mk (k := (P : Int)) (n := (m : Int)) (salt := (sa : Int)) (by omega) (by omega) (by omega) (by omega) HSA.out)
                have P2 := Lib.hid p2
                have P3 := Lib.hid p3
                clear hP p2 p3
                go_wp2_with fail
                refine (c_impl_SwapPlace (j : Int) (m : Int) (sa : Int) _).mono ?_
                rw [PB1.out, P2.out]
                obtain ⟨y, hy⟩ : ∃ y : Int, (P : Int) = y := ⟨_, rfl⟩
                rw [hy] at PB2 P3 ⊢
                have HYP := Lib.hid (show P = y.toNat by omega)
                have y0 : 0 ≤ y := by omega
                have y1 : y < (m : Int) := by omega
                clear hy
                rintro e wf ⟨rfl, hx⟩
                have HR1 := Lib.hid (rowIs_on HR.out hx)
                have HE1 := Lib.hid (HE.out.trans hx)
                clear hx
                go_wp2_with fail
                refine (c_impl_BackPlace y (m : Int) (sa : Int) _).mono ?_
                rw [PB2.out, P3.out]
                rintro e wg ⟨rfl, hx⟩
                have HR2 := Lib.hid (rowIs_on HR1.out hx)
                have HE2 := Lib.hid (HE1.out.trans hx)
                clear hx
                have hcl : wg.cell? ⟨we.heap.size, P, none⟩ = some (.bool false) := by rw [HR2.out.cell p1, HNEW.out]
                have hfr := HR2.out.frozen P
                rw [HYP.out] at hcl hfr
                have HR3 := Lib.hid (HSTEP.out _ HR2.out)
                rw [HYP.out] at HR3
                have HE3 := Lib.hid (show Ext w (wg.setCell ⟨we.heap.size, y.toNat, none⟩ (.bool true)) from HE2.out.stepS hwes.out _)
                clear p1 hlt hj
                have z0 : decide (y < 0) = false := decide_eq_false (by omega)
                have z1 : decide ((m : Int) ≤ y) = false := decide_eq_false (by omega)
                go_wp2
                go_roundw
                case rel => exact ⟨j + 1, by omega, by go_num, HR3.out, HE3.out⟩
                case measure => simp [intOf]; omega
              · obtain rfl : j = m := by omega
                clear hlt hj
                go_wp2
                go_ret
                exact ⟨rfl, HE.out⟩
          · obtain rfl : V = 1 := by have := V3.out; omega
            have d1 : decide (1000000000 < hh) = true := decide_eq_true (by omega)
            have d2 : decide (hh ≤ 2000000000) = true := decide_eq_true (by omega)
            have d3 : decide (2000000000 < hh) = false := decide_eq_false (by omega)
            clear hc1 hc2 hh0
            go_wp2_with fail
            refine (c_r8At a1 len1 cap1 bs1 45 60 _ (by decide) (by decide) (by decide) (C1.out.on HX2.out)).mono ?_; rintro e w' ⟨sz, hsz, rfl, rfl⟩
            have isz : (sz : Int) ≤ 59 := by omega
            obtain ⟨m, hm⟩ : ∃ m, 1 + sz = m := ⟨_, rfl⟩
            have hmI : 1 + (sz : Int) = (m : Int) := by omega
            have m1 : 1 ≤ m := by omega
            have m60 : m ≤ 60 := by omega
            have HMI := Lib.hid hmI
            clear hm hsz hmI
            go_upto_region 35 with fail
            rw [HMI.out]
            have hmk := run_make_row' (P := Try.prog) 31 4 (.bool false) 1 Try.underlying31 info_boolH rfl .i64 .i64 m (by omega) (by omega)
            have hmI' : (m : Int) ≤ 60 := by omega
            clear isz
            go_wp2_with fail
            have HX3 := Lib.hid (HX2.out.stepA (.cells (madeCells #[.bool false] m) 4))
            have hwes := Lib.hid HX2.out.size
            go_loopw [33] (fun i wr => ∃ j : Nat, j ≤ m ∧ i = .int .i64 (j : Int) ∧ wr.rowIs we.heap.size 4 m (seenF (sa : Int) m j) ∧ Ext w wr) (fun i _ => m - (intOf i).toNat)
            case atStart => exact ⟨0, Nat.zero_le _, rfl, (World.rowIs_made _ _ _ _).congr fun i _ => seenF_zero _ _ _, HX3.out⟩
            case round =>
              obtain ⟨j, hj, rfl, hrow, hext⟩ := hrel
              have HR := Lib.hid hrow
              have HE := Lib.hid hext
              clear hrow hext
              by_cases hlt : j < m
              · have hltI : (j : Int) < (m : Int) := by omega
                obtain ⟨p1, p2, p3⟩ := swP_all HSA.out (n := m) (k := j) (by omega) hlt
                have HNEW := Lib.hid (seenF_new HSA.out (n := m) (k := j) (by omega) hlt)
                have HSTEP := Lib.hid (fun (wx : World) (hx : wx.rowIs we.heap.size 4 m (seenF (sa : Int) m j)) => seenF_step hx)
                obtain ⟨P, hP⟩ : ∃ P, swP (sa : Int) m j = P := ⟨_, rfl⟩
                rw [hP] at p1 p2 p3 HNEW HSTEP
                have PB1 := Lib.hid (placeB_mk (k := (j : Int)) (n := (m : Int)) (salt := (sa : Int)) (by omega) (by omega) (by omega) (by omega) HSA.out)
                have PB2 := Lib.hid (placeB_mk (k := (P : Int)) (n := (m : Int)) (salt := (sa : Int)) (by omega) (by omega) (by omega) (by omega) HSA.out)
                have P2 := Lib.hid p2
                have P3 := Lib.hid p3
                clear hP p2 p3
                go_wp2_with fail
                refine (c_impl_SwapPlace (j : Int) (m : Int) (sa : Int) _).mono ?_
                rw [PB1.out, P2.out]
                obtain ⟨y, hy⟩ : ∃ y : Int, (P : Int) = y := ⟨_, rfl⟩
                rw [hy] at PB2 P3 ⊢
                have HYP := Lib.hid (show P = y.toNat by omega)
                have y0 : 0 ≤ y := by omega
                have y1 : y < (m : Int) := by omega
                clear hy
                rintro e wf ⟨rfl, hx⟩
                have HR1 := Lib.hid (rowIs_on HR.out hx)
                have HE1 := Lib.hid (HE.out.trans hx)
                clear hx
                go_wp2_with fail
                refine (c_impl_BackPlace y (m : Int) (sa : Int) _).mono ?_
                rw [PB2.out, P3.out]
                rintro e wg ⟨rfl, hx⟩
                have HR2 := Lib.hid (rowIs_on HR1.out hx)
                have HE2 := Lib.hid (HE1.out.trans hx)
                clear hx
                have hcl : wg.cell? ⟨we.heap.size, P, none⟩ = some (.bool false) := by rw [HR2.out.cell p1, HNEW.out]
                have hfr := HR2.out.frozen P
                rw [HYP.out] at hcl hfr
                have HR3 := Lib.hid (HSTEP.out _ HR2.out)
                rw [HYP.out] at HR3
                have HE3 := Lib.hid (show Ext w (wg.setCell ⟨we.heap.size, y.toNat, none⟩ (.bool true)) from HE2.out.stepS hwes.out _)
                clear p1 hlt hj
                have z0 : decide (y < 0) = false := decide_eq_false (by omega)
                have z1 : decide ((m : Int) ≤ y) = false := decide_eq_false (by omega)
                go_wp2
                go_roundw
                case rel => exact ⟨j + 1, by omega, by go_num, HR3.out, HE3.out⟩
                case measure => simp [intOf]; omega
              · obtain rfl : j = m := by omega
                clear hlt hj
                go_wp2
                go_ret
                exact ⟨rfl, HE.out⟩
          · obtain rfl : V = 2 := by have := V3.out; omega
            have d1 : decide (1000000000 < hh) = true := decide_eq_true (by omega)
            have d2 : decide (hh ≤ 2000000000) = false := decide_eq_false (by omega)
            have d3 : decide (2000000000 < hh) = true := decide_eq_true (by omega)
            have d4 : decide (hh ≤ 3000000000) = true := decide_eq_true (by omega)
            clear hc1 hc2 hh0
            go_wp2_with fail
            refine (c_r8At a1 len1 cap1 bs1 45 60 _ (by decide) (by decide) (by decide) (C1.out.on HX2.out)).mono ?_; rintro e w' ⟨sz, hsz, rfl, rfl⟩
            have isz : (sz : Int) ≤ 59 := by omega
            obtain ⟨m, hm⟩ : ∃ m, 1 + sz = m := ⟨_, rfl⟩
            have hmI : 1 + (sz : Int) = (m : Int) := by omega
            have m1 : 1 ≤ m := by omega
            have m60 : m ≤ 60 := by omega
            have HMI := Lib.hid hmI
            clear hm hsz hmI
            go_upto_region 35 with fail
            rw [HMI.out]
            have hmk := run_make_row' (P := Try.prog) 31 4 (.bool false) 1 Try.underlying31 info_boolH rfl .i64 .i64 m (by omega) (by omega)
            have hmI' : (m : Int) ≤ 60 := by omega
            clear isz
            go_wp2_with fail
            have HX3 := Lib.hid (HX2.out.stepA (.cells (madeCells #[.bool false] m) 4))
            have hwes := Lib.hid HX2.out.size
            go_loopw [33] (fun i wr => ∃ j : Nat, j ≤ m ∧ i = .int .i64 (j : Int) ∧ wr.rowIs we.heap.size 4 m (seenF (sa : Int) m j) ∧ Ext w wr) (fun i _ => m - (intOf i).toNat)
            case atStart => exact ⟨0, Nat.zero_le _, rfl, (World.rowIs_made _ _ _ _).congr fun i _ => seenF_zero _ _ _, HX3.out⟩
            case round =>
              obtain ⟨j, hj, rfl, hrow, hext⟩ := hrel
              have HR := Lib.hid hrow
              have HE := Lib.hid hext
              clear hrow hext
              by_cases hlt : j < m
              · have hltI : (j : Int) < (m : Int) := by omega
                obtain ⟨p1, p2, p3⟩ := swP_all HSA.out (n := m) (k := j) (by omega) hlt
                have HNEW := Lib.hid (seenF_new HSA.out (n := m) (k := j) (by omega) hlt)
                have HSTEP := Lib.hid (fun (wx : World) (hx : wx.rowIs we.heap.size 4 m (seenF (sa : Int) m j)) => seenF_step hx)
                obtain ⟨P, hP⟩ : ∃ P, swP (sa : Int) m j = P := ⟨_, rfl⟩
                rw [hP] at p1 p2 p3 HNEW HSTEP
                have PB1 := Lib.hid (placeB_mk (k := (j : Int)) (n := (m : Int)) (salt := (sa : Int)) (by omega) (by omega) (by omega) (by omega) HSA.out)
                have PB2 := Lib.hid (placeB_mk (k := (P : Int)) (n := (m : Int)) (salt := (sa : Int)) (by omega) (by omega) (by omega) (by omega) HSA.out)
                have P2 := Lib.hid p2
                have P3 := Lib.hid p3
                clear hP p2 p3
                go_wp2_with fail
                refine (c_impl_SwapPlace (j : Int) (m : Int) (sa : Int) _).mono ?_
                rw [PB1.out, P2.out]
                obtain ⟨y, hy⟩ : ∃ y : Int, (P : Int) = y := ⟨_, rfl⟩
                rw [hy] at PB2 P3 ⊢
                have HYP := Lib.hid (show P = y.toNat by omega)
                have y0 : 0 ≤ y := by omega
                have y1 : y < (m : Int) := by omega
                clear hy
                rintro e wf ⟨rfl, hx⟩
                have HR1 := Lib.hid (rowIs_on HR.out hx)
                have HE1 := Lib.hid (HE.out.trans hx)
                clear hx
                go_wp2_with fail
                refine (c_impl_BackPlace y (m : Int) (sa : Int) _).mono ?_
                rw [PB2.out, P3.out]
                rintro e wg ⟨rfl, hx⟩
                have HR2 := Lib.hid (rowIs_on HR1.out hx)
                have HE2 := Lib.hid (HE1.out.trans hx)
                clear hx
                have hcl : wg.cell? ⟨we.heap.size, P, none⟩ = some (.bool false) := by rw [HR2.out.cell p1, HNEW.out]
                have hfr := HR2.out.frozen P
                rw [HYP.out] at hcl hfr
                have HR3 := Lib.hid (HSTEP.out _ HR2.out)
                rw [HYP.out] at HR3
                have HE3 := Lib.hid (show Ext w (wg.setCell ⟨we.heap.size, y.toNat, none⟩ (.bool true)) from HE2.out.stepS hwes.out _)
                clear p1 hlt hj
                have z0 : decide (y < 0) = false := decide_eq_false (by omega)
                have z1 : decide ((m : Int) ≤ y) = false := decide_eq_false (by omega)
                go_wp2
                go_roundw
                case rel => exact ⟨j + 1, by omega, by go_num, HR3.out, HE3.out⟩
                case measure => simp [intOf]; omega
              · obtain rfl : j = m := by omega
                clear hlt hj
                go_wp2
                go_ret
                exact ⟨rfl, HE.out⟩
          · obtain rfl : V = 0 := by have := V3.out; omega
            have d1 : decide (1000000000 < hh) = true := decide_eq_true (by omega)
            have d2 : decide (hh ≤ 2000000000) = false := decide_eq_false (by omega)
            have d3 : decide (2000000000 < hh) = true := decide_eq_true (by omega)
            have d4 : decide (hh ≤ 3000000000) = false := decide_eq_false (by omega)
            clear hc hh0
            go_wp2_with fail
            refine (c_r8At a1 len1 cap1 bs1 45 60 _ (by decide) (by decide) (by decide) (C1.out.on HX2.out)).mono ?_; rintro e w' ⟨sz, hsz, rfl, rfl⟩
            have isz : (sz : Int) ≤ 59 := by omega
            obtain ⟨m, hm⟩ : ∃ m, 1 + sz = m := ⟨_, rfl⟩
            have hmI : 1 + (sz : Int) = (m : Int) := by omega
            have m1 : 1 ≤ m := by omega
            have m60 : m ≤ 60 := by omega
            have HMI := Lib.hid hmI
            clear hm hsz hmI
            go_upto_region 35 with fail
            rw [HMI.out]
            have hmk := run_make_row' (P := Try.prog) 31 4 (.bool false) 1 Try.underlying31 info_boolH rfl .i64 .i64 m (by omega) (by omega)
            have hmI' : (m : Int) ≤ 60 := by omega
            clear isz
            go_wp2_with fail
            have HX3 := Lib.hid (HX2.out.stepA (.cells (madeCells #[.bool false] m) 4))
            have hwes := Lib.hid HX2.out.size
            go_loopw [33] (fun i wr => ∃ j : Nat, j ≤ m ∧ i = .int .i64 (j : Int) ∧ wr.rowIs we.heap.size 4 m (seenF (sa : Int) m j) ∧ Ext w wr) (fun i _ => m - (intOf i).toNat)
            case atStart => exact ⟨0, Nat.zero_le _, rfl, (World.rowIs_made _ _ _ _).congr fun i _ => seenF_zero _ _ _, HX3.out⟩
            case round =>
              obtain ⟨j, hj, rfl, hrow, hext⟩ := hrel
              have HR := Lib.hid hrow
              have HE := Lib.hid hext
              clear hrow hext
              by_cases hlt : j < m
              · have hltI : (j : Int) < (m : Int) := by omega
                obtain ⟨p1, p2, p3⟩ := swP_all HSA.out (n := m) (k := j) (by omega) hlt
                have HNEW := Lib.hid (seenF_new HSA.out (n := m) (k := j) (by omega) hlt)
                have HSTEP := Lib.hid (fun (wx : World) (hx : wx.rowIs we.heap.size 4 m (seenF (sa : Int) m j)) => seenF_step hx)
                obtain ⟨P, hP⟩ : ∃ P, swP (sa : Int) m j = P := ⟨_, rfl⟩
                rw [hP] at p1 p2 p3 HNEW HSTEP
                have PB1 := Lib.hid (placeB_mk (k := (j : Int)) (n := (m : Int)) (salt := (sa : Int)) (by omega) (by omega) (by omega) (by omega) HSA.out)
                have PB2 := Lib.hid (placeB_mk (k := (P : Int)) (n := (m : Int)) (salt := (sa : Int)) (by omega) (by omega) (by omega) (by omega) HSA.out)
                have P2 := Lib.hid p2
                have P3 := Lib.hid p3
                clear hP p2 p3
                go_wp2_with fail
                refine (c_impl_SwapPlace (j : Int) (m : Int) (sa : Int) _).mono ?_
                rw [PB1.out, P2.out]
                obtain ⟨y, hy⟩ : ∃ y : Int, (P : Int) = y := ⟨_, rfl⟩
                rw [hy] at PB2 P3 ⊢
                have HYP := Lib.hid (show P = y.toNat by omega)
                have y0 : 0 ≤ y := by omega
                have y1 : y < (m : Int) := by omega
                clear hy
                rintro e wf ⟨rfl, hx⟩
                have HR1 := Lib.hid (rowIs_on HR.out hx)
                have HE1 := Lib.hid (HE.out.trans hx)
                clear hx
                go_wp2_with fail
                refine (c_impl_BackPlace y (m : Int) (sa : Int) _).mono ?_
                rw [PB2.out, P3.out]
                rintro e wg ⟨rfl, hx⟩
                have HR2 := Lib.hid (rowIs_on HR1.out hx)
                have HE2 := Lib.hid (HE1.out.trans hx)
                clear hx
                have hcl : wg.cell? ⟨we.heap.size, P, none⟩ = some (.bool false) := by rw [HR2.out.cell p1, HNEW.out]
                have hfr := HR2.out.frozen P
                rw [HYP.out] at hcl hfr
                have HR3 := Lib.hid (HSTEP.out _ HR2.out)
                rw [HYP.out] at HR3
                have HE3 := Lib.hid (show Ext w (wg.setCell ⟨we.heap.size, y.toNat, none⟩ (.bool true)) from HE2.out.stepS hwes.out _)
                clear p1 hlt hj
                have z0 : decide (y < 0) = false := decide_eq_false (by omega)
                have z1 : decide ((m : Int) ≤ y) = false := decide_eq_false (by omega)
                go_wp2
                go_roundw
                case rel => exact ⟨j + 1, by omega, by go_num, HR3.out, HE3.out⟩
                case measure => simp [intOf]; omega
              · obtain rfl : j = m := by omega
                clear hlt hj
                go_wp2
                go_ret
                exact ⟨rfl, HE.out⟩
end Go.Proofs.Ytibldgcfplpdkaa
