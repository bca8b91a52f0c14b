/- HomeOf: what both sides answer. -/
import Derived.Test.YtibldgcfplpdkaaLea
namespace Go.Proofs.Ytibldgcfplpdkaa
open Go.ChangeShapes Go.WideShapes Go.ChangeAt Go.RowKit
set_option linter.unusedVariables false
def fH (key : Int) (zs : List Int) (i : Nat) : Int := -((hashN key (zs[i]?.getD 0) : Nat) : Int)
def homeB (key : Int) (zs : List Int) : Bool := keyB key && keysB zs && decide (1 ≤ zs.length ∧ zs.length ≤ 64)
def homeV (key : Int) (zs : List Int) : Int := if homeB key zs then ((leastAt (fH key zs) zs.length : Nat) : Int) else 0
theorem homeB_1 {key : Int} {zs : List Int} (h : keyB key = false) : homeB key zs = false := by unfold homeB; rw [h]; rfl
theorem homeB_2 {key : Int} {zs : List Int} (h : keysB zs = false) : homeB key zs = false := by unfold homeB; rw [h]; simp
theorem homeB_3 {key : Int} {zs : List Int} (h : ¬ (1 ≤ zs.length ∧ zs.length ≤ 64)) : homeB key zs = false := by unfold homeB; rw [decide_eq_false h]; simp
theorem homeB_mk {key : Int} {zs : List Int} (h1 : keyB key = true) (h2 : keysB zs = true) (h3 : 1 ≤ zs.length ∧ zs.length ≤ 64) : homeB key zs = true := by unfold homeB; rw [h1, h2, decide_eq_true h3]; rfl
theorem homeV_no {key : Int} {zs : List Int} (h : homeB key zs = false) : homeV key zs = 0 := by unfold homeV; rw [h]; rfl
theorem homeV_yes {key : Int} {zs : List Int} (h : homeB key zs = true) : homeV key zs = ((leastAt (fH key zs) zs.length : Nat) : Int) := by unfold homeV; rw [h, if_pos rfl]
theorem neg_yes {u v : Int} (h : v < u) : -u < -v := by omega
theorem neg_no {u v : Int} (h : ¬ v < u) : ¬ -u < -v := by omega
theorem cell_new (w : World) (v : Value) (t : TypeId) : (w.alloc (.cells #[v] t)).cell? ⟨w.heap.size, 0, none⟩ = some v := by simp
theorem c_impl_hashKey_is (key salt v : Int) (w : World) (hk : keyB key = true) (hs : keyB salt = true) (hv : ((hashN key salt : Nat) : Int) = v) : Calls Try.prog 101 #[.int .i64 key, .int .i64 salt] w fun e w' => e = .returned (.int .i64 v) ∧ w' = w := by
  subst hv; exact (c_impl_hashKey key salt w hk hs).mono (by rintro e w' ⟨rfl, rfl⟩; exact ⟨rfl, rfl⟩)
theorem c_homeLess (key x y u v : Int) (g : Nat) (w : World) {b : Bool} (hk : keyB key = true) (hx : keyB x = true) (hy : keyB y = true) (hu : ((hashN key x : Nat) : Int) = u) (hv : ((hashN key y : Nat) : Int) = v) (hb : decide (v < u) = b) (hc : w.cell? ⟨g, 0, none⟩ = some (.int .i64 key)) :
    Calls Try.prog 100 #[.int .i64 x, .int .i64 y, .pointer (some ⟨g, 0, none⟩)] w fun e w' => e = .returned (.bool b) ∧ ∃ q, w' = w.drewN q := by
  subst hb
  have HK := Lib.hid hk
  have HX := Lib.hid hx
  have HY := Lib.hid hy
  have HU := Lib.hid hu
  have HV := Lib.hid hv
  clear hk hx hy hu hv
  go_enter Try.func100, Try.ntmps100
  go_wp2
  go_quiet (first | (go_at_call_of 101 (Value.int .i64 x); exact Calls.quiet_of_same (c_impl_hashKey_is key x u _ HK.out HX.out HU.out)) | (go_at_call_of 101 (Value.int .i64 y); exact Calls.quiet_of_same (c_impl_hashKey_is key y v _ HK.out HY.out HV.out)))
  go_wp2
  go_ret
  exact ⟨rfl, _, rfl⟩
theorem c_firstLeast_home (key : Int) (g : Nat) (a : Option Addr) (n cap : Nat) (zs : List Int) (w : World) (hk : keyB key = true) (hks : keysB zs = true) (h1 : 1 ≤ n) (h : Reads w a n (ints zs)) (hg : w.cell? ⟨g, 0, none⟩ = some (.int .i64 key)) :
    Calls Try.prog 99 #[.slice a n cap, .func (.func 100) #[] #[.pointer (some ⟨g, 0, none⟩)]] w fun e w' => e = .returned (.int .i64 (leastAt (fH key zs) n : Nat)) ∧ ∃ q, w' = w.drewN q := by
  have hn := keysB_len hks
  obtain ⟨rfl, hr⟩ := h.int
  rcases hr with h0 | ⟨b, off, rfl, hc⟩
  · omega
  have HC := Lib.hid hc
  have HK := Lib.hid hk
  have HKS := Lib.hid hks
  have HG := Lib.hid hg
  clear hc h hk hks hg
  go_enter Try.func99, Try.ntmps99
  go_wp2
  go_loopw [5, 10] (fun m i wr => ∃ k q : Nat, k ≤ zs.length ∧ i = .int .i64 k ∧ m = .int .i64 (leastAt (fH key zs) k : Nat) ∧ wr = w.drewN q) (fun _ i _ => zs.length - (intOf i).toNat)
  case atStart => exact ⟨0, 0, by omega, rfl, rfl, rfl⟩
  case round =>
    obtain ⟨k, q, hk, rfl, rfl, hw⟩ := hrel
    have HW := Lib.hid hw
    clear hw
    by_cases hlt : k < zs.length
    · obtain ⟨m, hm⟩ : ∃ m, leastAt (fH key zs) k = m := ⟨_, rfl⟩
      have hml : m < zs.length := by
        rw [← hm]
        by_cases h0 : k = 0
        · subst h0; exact hlt
        · have := leastAt_le (fH key zs) k (by omega); omega
      have hcx : wr.cell? ⟨b, off + k, none⟩ = some (.int .i64 (zs[k]?.getD 0)) := by rw [HW.out]; exact HC.out k hlt
      have hcy : wr.cell? ⟨b, off + m, none⟩ = some (.int .i64 (zs[m]?.getD 0)) := by rw [HW.out]; exact HC.out m hml
      have HGW := Lib.hid (show wr.cell? ⟨g, 0, none⟩ = some (.int .i64 key) by rw [HW.out]; exact HG.out)
      obtain ⟨x, hx⟩ : ∃ x, zs[k]?.getD 0 = x := ⟨_, rfl⟩
      obtain ⟨y, hy⟩ : ∃ y, zs[m]?.getD 0 = y := ⟨_, rfl⟩
      have HX := Lib.hid (show keyB x = true by rw [← hx]; exact keysB_at HKS.out hlt)
      have HY := Lib.hid (show keyB y = true by rw [← hy]; exact keysB_at HKS.out (by omega))
      have fu : fH key zs k = -((hashN key x : Nat) : Int) := by unfold fH; rw [hx]
      have fv : fH key zs m = -((hashN key y : Nat) : Int) := by unfold fH; rw [hy]
      rw [hx] at hcx
      rw [hy] at hcy
      rw [hm]
      by_cases hlt2 : ((hashN key y : Nat) : Int) < ((hashN key x : Nat) : Int)
      · have HL := Lib.hid (show leastAt (fH key zs) (k + 1) = k from leastAt_yes (by rw [hm, fu, fv]; exact neg_yes hlt2))
        have HD := Lib.hid (show decide (((hashN key y : Nat) : Int) < ((hashN key x : Nat) : Int)) = true from decide_eq_true hlt2)
        clear hx hy fu fv hm hlt2
        go_wp2_with (go_at_call 100; refine (c_homeLess key x y _ _ g _ HK.out HX.out HY.out rfl rfl HD.out HGW.out).mono ?_; rintro e w' ⟨rfl, q', rfl⟩)
        go_roundw
        case rel => exact ⟨k + 1, _, by omega, by go_num, by rw [HL.out], by rw [HW.out, World.drewN_drewN]⟩
        case measure => simp [intOf]; omega
      · have HL := Lib.hid (show leastAt (fH key zs) (k + 1) = m from by rw [leastAt_no (by rw [hm, fu, fv]; exact neg_no hlt2), hm])
        have HD := Lib.hid (show decide (((hashN key y : Nat) : Int) < ((hashN key x : Nat) : Int)) = false from decide_eq_false hlt2)
        clear hx hy fu fv hm hlt2
        go_wp2_with (go_at_call 100; refine (c_homeLess key x y _ _ g _ HK.out HX.out HY.out rfl rfl HD.out HGW.out).mono ?_; rintro e w' ⟨rfl, q', rfl⟩)
        go_roundw
        case rel => exact ⟨k + 1, _, by omega, by go_num, by rw [HL.out], by rw [HW.out, World.drewN_drewN]⟩
        case measure => simp [intOf]; omega
    · obtain rfl : k = zs.length := by omega
      go_wp2
      go_ret
      exact ⟨rfl, _, HW.out⟩
set_option maxHeartbeats 1000000 in
theorem c_impl_HomeOf (key : Int) (a : Option Addr) (n cap : Nat) (zs : List Int) (w : World) (hm : n ≤ maxLen) (h : Reads w a n (ints zs)) :
    Calls Try.prog 18 #[.int .i64 key, .slice a n cap] w fun e w' => e = .returned (.tuple #[.int .i64 (homeV key zs), .bool (homeB key zs)]) ∧ Ext w w' := by
  have hlen : n = zs.length := h.int.1.symm
  have HA := Lib.hid (fun o : Obj => h.on (Ext.alloc w o))
  have HE := Lib.hid (fun o : Obj => Ext.alloc w o)
  cases hk : keyB key
  · have HK := Lib.hid hk
    have HB := Lib.hid (homeB_1 (zs := zs) hk)
    rw [homeV_no HB.out, HB.out]
    clear hk h hlen
    go_enter Try.func18, Try.ntmps18
    go_wp2_with (go_at_call 97; refine (c_impl_IsKey_at key _ HK.out).mono ?_; rintro e w' ⟨rfl, rfl⟩)
    go_ret2
    exact ⟨rfl, HE.out _⟩
  · have HK := Lib.hid hk
    cases hks : keysB zs
    · have HKS := Lib.hid hks
      have HB := Lib.hid (homeB_2 (key := key) hks)
      rw [homeV_no HB.out, HB.out]
      clear hk h hlen hks
      go_enter Try.func18, Try.ntmps18
      go_wp2_with (first | (go_at_call 97; refine (c_impl_IsKey_at key _ HK.out).mono ?_; rintro e w' ⟨rfl, rfl⟩) | (go_at_call 98; refine (c_impl_AreKeys_of _ _ _ zs _ HKS.out hm (HA.out _)).mono ?_; rintro e w' ⟨rfl, rfl⟩))
      go_ret2
      exact ⟨rfl, HE.out _⟩
    · have HKS := Lib.hid hks
      by_cases h1 : n < 1
      · have HB := Lib.hid (homeB_3 (key := key) (zs := zs) (by omega))
        rw [homeV_no HB.out, HB.out]
        have h1' : (n : Int) < 1 := by omega
        clear hk h hlen hks h1
        go_enter Try.func18, Try.ntmps18
        go_wp2_with (first | (go_at_call 97; refine (c_impl_IsKey_at key _ HK.out).mono ?_; rintro e w' ⟨rfl, rfl⟩) | (go_at_call 98; refine (c_impl_AreKeys_of _ _ _ zs _ HKS.out hm (HA.out _)).mono ?_; rintro e w' ⟨rfl, rfl⟩))
        go_ret2
        exact ⟨rfl, HE.out _⟩
      · by_cases h2 : 64 < n
        · have HB := Lib.hid (homeB_3 (key := key) (zs := zs) (by omega))
          rw [homeV_no HB.out, HB.out]
          have h1' : ¬ (n : Int) < 1 := by omega
          have h2' : (64 : Int) < n := by omega
          clear hk h hlen hks h1 h2
          go_enter Try.func18, Try.ntmps18
          go_wp2_with (first | (go_at_call 97; refine (c_impl_IsKey_at key _ HK.out).mono ?_; rintro e w' ⟨rfl, rfl⟩) | (go_at_call 98; refine (c_impl_AreKeys_of _ _ _ zs _ HKS.out hm (HA.out _)).mono ?_; rintro e w' ⟨rfl, rfl⟩))
          go_ret2
          exact ⟨rfl, HE.out _⟩
        · have HB := Lib.hid (homeB_mk hk hks (by omega))
          rw [homeV_yes HB.out, HB.out, ← hlen]
          have h1' : ¬ (n : Int) < 1 := by omega
          have h2' : ¬ (64 : Int) < n := by omega
          have h1n : 1 ≤ n := by omega
          have HC := Lib.hid (fun v : Value => cell_new w v 2)
          clear hk h hlen hks h1 h2
          go_enter Try.func18, Try.ntmps18
          go_wp2_with (first | (go_at_call 97; refine (c_impl_IsKey_at key _ HK.out).mono ?_; rintro e w' ⟨rfl, rfl⟩) | (go_at_call 98; refine (c_impl_AreKeys_of _ _ _ zs _ HKS.out hm (HA.out _)).mono ?_; rintro e w' ⟨rfl, rfl⟩) | (go_at_call 99; refine (c_firstLeast_home key _ _ _ _ zs _ HK.out HKS.out h1n (HA.out _) (HC.out _)).mono ?_; rintro e w' ⟨rfl, q, rfl⟩))
          go_ret2
          exact ⟨rfl, (HE.out _).trans (Ext.drewN _ _)⟩
end Go.Proofs.Ytibldgcfplpdkaa
