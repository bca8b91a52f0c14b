/- SieveOf: the program's side. -/
import Derived.Test.YtfolflkbpdbkcaaIns
import Derived.Deep.DeepCutAuto
import Derived.Deep.LoopGhost
import Derived.Deep.RegionHeld3
import Derived.Deep.AppendLies
import Derived.Lib.SmallJoins
namespace Go.Proofs.Ytfolflkbpdbkcaa
open Go.ChangeShapes Go.WideShapes Go.ChangeAt Go.RowKit
set_option linter.unusedVariables false
set_option maxHeartbeats 1000000 in
theorem c_CloneB (b off n c : Nat) (zs : List Bool) (w : World) (hz : zs.length = n) (hn : n ≤ 1048576) (hc : ∀ i, i < n → w.cell? ⟨b, off + i, none⟩ = (bools zs)[i]?) :
    Calls Try.prog 67 #[.slice (some ⟨b, off, none⟩) n c] w fun e w' => ∃ v', e = .returned v' ∧ w'.ownsRow w.heap.size 4 1 v' n (bools zs) ∧ v' ≠ .slice none 0 0 ∧ Ext w w' := by
  obtain ⟨i0, hi, hz0, hz1, hz2⟩ := info_parts info_bool
  have q22 : ∀ (w : World) (a : Option Addr) (n c n' c' : Nat), (binOp .eql 22 (.slice a n c) (.slice none n' c')).run Try.prog w = .ok (.bool a.isNone) w := fun w a n c n' c' => Lib.run_eql_slice_nil w _ _ a n c n' c' Try.underlying22
  have HC := Lib.hid hc
  have HZ := Lib.hid hz
  clear hc hz
  go_enter Try.func67, Try.ntmps67
  go_wp2_with (at_builtin; refine wpList_append_own _ rfl _ _ 22 rfl w.heap.size 4 i0 (.bool false) 1 1 Try.underlying22 hi hz0 hz1 hz2 rfl (by decide) _ _ _ rfl (World.ownsRow_made w #[] 0 (Nat.le_refl _) (Nat.zero_le _) rfl) ⟨b, off, none⟩ n c (bools zs) rfl ?qc1 ?qc2 ?qc3 ?qc4 ?qc5 ?qc6 ?_)
  case qc1 => rw [bools_length, HZ.out]; simp
  case qc2 =>
    intro j u hj
    have hjn : j < n := by
      have := (List.getElem?_eq_some_iff.1 hj).1
      rw [bools_length, HZ.out] at this
      exact this
    rw [Addr.add_lit]
    refine Lib.cell?_alloc_some _ ?_
    rw [HC.out j hjn]
    exact hj
  case qc3 => intro u hu; obtain ⟨x, _, rfl⟩ := List.mem_map.1 hu; rfl
  case qc4 => unfold maxLen; omega
  case qc5 => omega
  case qc6 => simp
  intro v' w1 hown hgrow hnil
  go_wp2
  go_ret
  refine ⟨v', rfl, by simpa using hown, ?_, ?_⟩
  · exact hnil
  · exact ((Below.refl _ w).alloc (Nat.le_refl _) _).grown hgrow (by simp) (by intro k hk; simp [Value.ownBlock] at hk; omega)
theorem c_CloneB_r (a : Option Addr) (n c : Nat) (zs : List Bool) (w : World) (h0 : 0 < n) (hn : n ≤ 1048576) (h : Reads w a n (bools zs)) :
    Calls Try.prog 67 #[.slice a n c] w fun e w' => ∃ g c' f, e = .returned (.slice (some ⟨g, 0, none⟩) n c') ∧ w.heap.size ≤ g ∧ n ≤ c' ∧ w'.rowIs g 4 c' (rowB zs f) ∧ Ext w w' := by
  obtain ⟨hl, h1⟩ := h
  rcases h1 with h1 | ⟨b, off, rfl, hc⟩
  · omega
  refine (c_CloneB b off n c zs w (by rw [← bools_length]; exact hl) hn hc).mono ?_
  rintro e w' ⟨v', rfl, ho, hne, hx⟩
  obtain ⟨a', c', rfl, ho'⟩ := Own.of_row (e := 0) ho
  obtain ⟨g, f, rfl, h1, h2, h3, h4, h5⟩ := ho'.rowB h0
  exact ⟨g, c', f, rfl, h1, h4, h5, hx⟩
theorem c_impl_AreKeys_q (a : Option Addr) (n cap : Nat) (zs : List Int) (w : World) {b : Bool} (hb : keysB zs = b) (hm : n ≤ maxLen) (h : Reads w a n (ints zs)) :
    Calls Try.prog 66 #[.slice a n cap] w fun e w' => e = .returned (.bool b) ∧ w = w' := by
  subst hb; exact c_impl_AreKeys a n cap zs w hm h
/-- bits at places become true -/
def setsAt (p : Nat → Nat) (bs : List Bool) : Nat → List Bool
  | 0 => bs
  | k + 1 => (setsAt p bs k).set (p k) true
theorem setsAt_length (p : Nat → Nat) (bs : List Bool) : ∀ k, (setsAt p bs k).length = bs.length
  | 0 => rfl
  | k + 1 => by
    show ((setsAt p bs k).set (p k) _).length = _
    rw [List.length_set, setsAt_length p bs k]
/-- keys are put, one after another -/
def putsN (S : Int) (m r : Nat) (ks : List Int) (bs : List Bool) : Nat → List Bool
  | 0 => bs
  | i + 1 => setsAt (gplace S (ks[i]?.getD 0) m) (putsN S m r ks bs i) r
theorem putsN_length (S : Int) (m r : Nat) (ks : List Int) (bs : List Bool) : ∀ i, (putsN S m r ks bs i).length = bs.length
  | 0 => rfl
  | i + 1 => by
    show (setsAt _ (putsN S m r ks bs i) r).length = _
    rw [setsAt_length, putsN_length S m r ks bs i]
def sieveOfR (R S : Int) (bs : List Bool) (ks : List Int) : SV × Bool := if gridB R S bs.length && keysB ks then (⟨R, S, putsN S bs.length R.toNat ks bs ks.length⟩, true) else (SV.no, false)
theorem sieveOfR_1 {R S : Int} {bs : List Bool} {ks : List Int} (h : gridB R S bs.length = false) : sieveOfR R S bs ks = (SV.no, false) := by unfold sieveOfR; rw [h]; rfl
theorem sieveOfR_2 {R S : Int} {bs : List Bool} {ks : List Int} (h : keysB ks = false) : sieveOfR R S bs ks = (SV.no, false) := by unfold sieveOfR; rw [h, Bool.and_false]; rfl
theorem sieveOfR_y {r : Nat} {S : Int} {bs : List Bool} {ks : List Int} (h : gridB r S bs.length = true) (hk : keysB ks = true) : sieveOfR r S bs ks = (⟨r, S, putsN S bs.length r ks bs ks.length⟩, true) := by unfold sieveOfR; rw [h, hk]; simp
theorem sieveOfR_le {R S : Int} {bs rz : List Bool} {ks : List Int} {rR rS : Int} {rb : Bool} (h : sieveOfR R S bs ks = (⟨rR, rS, rz⟩, rb)) : rz.length ≤ 1048576 := by
  unfold sieveOfR at h
  split at h
  · rename_i hc
    simp only [Bool.and_eq_true] at hc
    obtain ⟨r, m, _, hm, ok⟩ := grid_ok hc.1
    have := ok.n512
    simp only [Prod.mk.injEq, SV.mk.injEq] at h
    rw [← h.1.2.2, putsN_length]; omega
  · simp only [Prod.mk.injEq, SV.no, SV.mk.injEq] at h
    rw [← h.1.2.2]; exact Nat.zero_le _
set_option maxHeartbeats 4000000 in
theorem c_impl_SieveOf (R S : Int) (a : Option Addr) (n cap : Nat) (bs : List Bool) (ka : Option Addr) (kn kc : Nat) (ks : List Int) (w : World) {V : SV} {v : Bool} (hv : sieveOfR R S bs ks = (V, v)) (hm : n ≤ maxLen) (h : Reads w a n (bools bs)) (hkm : kn ≤ maxLen) (hk : Reads w ka kn (ints ks)) :
    Calls Try.prog 32 #[.agg #[.int .i64 R, .int .i64 S, .slice a n cap], .slice ka kn kc] w (RetKVB 4 V v w) := by
  have hn := h.bool.1
  subst hn
  have hkn := hk.int.1
  subst hkn
  have H := Lib.hid h
  have HKR := Lib.hid hk
  have BX := Lib.hid ((Box.alloc w #[.int .i64 R, .int .i64 S, .slice a bs.length cap] 27).past (.cells #[.int .i64 0, .int .i64 0, .slice none 0 0] 27))
  have BZ := Lib.hid (Box.alloc_at (w.alloc (.cells #[.int .i64 R, .int .i64 S, .slice a bs.length cap] 27)) #[.int .i64 0, .int .i64 0, .slice none 0 0] 27 (b := w.heap.size + 1) (by simp))
  clear h hk
  cases hc : gridB R S bs.length
  · rw [sieveOfR_1 hc] at hv
    simp only [Prod.mk.injEq] at hv
    obtain ⟨rfl, rfl⟩ := hv
    have HC := Lib.hid hc
    clear hc
    go_enter Try.func32, Try.ntmps32
    go_wp2_with fail
    refine (c_impl_ValidSieve_n R S a bs.length cap _ HC.out hm).mono ?_; rintro e u1 ⟨rfl, x1⟩
    have X : Ext w u1 := Ext.trans (by (repeat (first | assumption | exact Ext.refl _ | (with_reducible refine Ext.stepS ?_ (by first | exact Nat.le_refl _ | (simp; done) | (simp; omega)) _) | (with_reducible refine Ext.stepN ?_ _) | (with_reducible refine Ext.stepD ?_) | (with_reducible refine Ext.stepA ?_ _)))) x1
    obtain ⟨z0, z1, z2⟩ := (BZ.out.on x1).three
    obtain ⟨f0, f1, f2, f3⟩ := (BZ.out.on x1).free
    clear x1
    go_wp2
    refine bodyPost_ret (v := .tuple #[.agg #[.int .i64 0, .int .i64 0, .slice none 0 0], .bool false]) (by simp [results, Try.results32, go_sem, z0, z1, z2]) rfl ⟨none, 0, rfl, Own.nil _ _ _ _, ?_⟩
    (repeat (first | assumption | exact Ext.refl _ | (with_reducible refine Ext.stepS ?_ (by first | exact Nat.le_refl _ | (simp; done) | (simp; omega)) _) | (with_reducible refine Ext.stepN ?_ _) | (with_reducible refine Ext.stepD ?_) | (with_reducible refine Ext.stepA ?_ _)))
  cases hkb : keysB ks
  · rw [sieveOfR_2 hkb] at hv
    simp only [Prod.mk.injEq] at hv
    obtain ⟨rfl, rfl⟩ := hv
    have HC := Lib.hid hc
    have HKB := Lib.hid hkb
    clear hc hkb
    go_enter Try.func32, Try.ntmps32
    go_wp2_with fail
    refine (c_impl_ValidSieve_n R S a bs.length cap _ HC.out hm).mono ?_; rintro e u1 ⟨rfl, x1⟩
    have X : Ext w u1 := Ext.trans (by (repeat (first | assumption | exact Ext.refl _ | (with_reducible refine Ext.stepS ?_ (by first | exact Nat.le_refl _ | (simp; done) | (simp; omega)) _) | (with_reducible refine Ext.stepN ?_ _) | (with_reducible refine Ext.stepD ?_) | (with_reducible refine Ext.stepA ?_ _)))) x1
    obtain ⟨z0, z1, z2⟩ := (BZ.out.on x1).three
    obtain ⟨f0, f1, f2, f3⟩ := (BZ.out.on x1).free
    clear x1
    go_wp2_with fail
    refine (c_impl_AreKeys_q ka ks.length kc ks _ HKB.out hkm (HKR.out.on X)).mono ?_; rintro e w' ⟨rfl, rfl⟩
    go_wp2
    refine bodyPost_ret (v := .tuple #[.agg #[.int .i64 0, .int .i64 0, .slice none 0 0], .bool false]) (by simp [results, Try.results32, go_sem, z0, z1, z2]) rfl ⟨none, 0, rfl, Own.nil _ _ _ _, ?_⟩
    (repeat (first | assumption | exact Ext.refl _ | (with_reducible refine Ext.stepS ?_ (by first | exact Nat.le_refl _ | (simp; done) | (simp; omega)) _) | (with_reducible refine Ext.stepN ?_ _) | (with_reducible refine Ext.stepD ?_) | (with_reducible refine Ext.stepA ?_ _)))
  obtain ⟨r, m, rfl, hm2, ok⟩ := grid_ok hc
  obtain rfl : bs.length = m := by omega
  rw [sieveOfR_y hc hkb] at hv
  simp only [Prod.mk.injEq] at hv
  obtain ⟨hv, rfl⟩ := hv
  have HV := Lib.hid hv
  have OK := Lib.hid ok
  have HC := Lib.hid hc
  have HKB := Lib.hid hkb
  have hr8 := ok.r8
  have hn1 := ok.n1
  have hn5 := ok.n512
  have hk256 := keysB_len hkb
  clear hc hkb hv ok hm2
  go_enter Try.func32, Try.ntmps32
  go_wp2_with fail
  refine (c_impl_ValidSieve_n r S a bs.length cap _ HC.out hm).mono ?_; rintro e wa ⟨rfl, x1⟩
  have X1 := Lib.hid (show Ext w wa from Ext.trans (by (repeat (first | assumption | exact Ext.refl _ | (with_reducible refine Ext.stepS ?_ (by first | exact Nat.le_refl _ | (simp; done) | (simp; omega)) _) | (with_reducible refine Ext.stepN ?_ _) | (with_reducible refine Ext.stepD ?_) | (with_reducible refine Ext.stepA ?_ _)))) x1)
  have BX1 := Lib.hid (BX.out.on x1)
  have HSZ := Lib.hid (show w.heap.size + 2 ≤ wa.heap.size from Nat.le_trans (by first | omega | (simp; done) | (simp; omega)) x1.size)
  have BZ1 := Lib.hid (BZ.out.on x1)
  obtain ⟨b0, b1, b2⟩ := BX1.out.three
  clear x1
  go_wp2_with fail
  refine (c_impl_AreKeys_q ka ks.length kc ks _ HKB.out hkm (HKR.out.on X1.out)).mono ?_; rintro e w' ⟨rfl, rfl⟩
  go_wp2_with fail
  have hne : w.heap.size ≠ wa.heap.size := by have := HSZ.out; omega
  have hne' : wa.heap.size ≠ w.heap.size := fun h => hne h.symm
  go_upto_region 3 with fail
  go_cut [6] (fun s6 wx => ∃ nb g c2 f2, s6 = .pointer (some ⟨nb, 0, none⟩) ∧ Box wx nb 27 #[.int .i64 r, .int .i64 S, .slice (some ⟨g, 0, none⟩) bs.length c2] ∧ wa.heap.size ≤ g ∧ nb ≠ g ∧ wa.heap.size ≤ nb ∧ bs.length ≤ c2 ∧ wx.rowIs g 4 c2 (rowB bs f2) ∧ Ext wa wx)
  case first =>
    go_region_held3 (fun w' => w'.cell? ⟨w.heap.size, 0, none⟩ = some (.int .i64 r) ∧ w'.cell? ⟨w.heap.size, 1, none⟩ = some (.int .i64 S) ∧ w'.cell? ⟨w.heap.size, 2, none⟩ = some (.slice a bs.length cap)) (first | exact KA | go_keep)
      (first | (go_at_call 67; refine (c_CloneB_r a bs.length cap bs _ (by omega) (by omega) (H.out.on (X1.out.trans (by (repeat (first | assumption | exact Ext.refl _ | (with_reducible refine Ext.stepS ?_ (by first | exact Nat.le_refl _ | (simp; done) | (simp; omega)) _) | (with_reducible refine Ext.stepN ?_ _) | (with_reducible refine Ext.stepD ?_) | (with_reducible refine Ext.stepA ?_ _))))))).mono ?_; rintro e wb ⟨g, c2, f2, rfl, hg, hc2, r2, x2⟩; have EA : Ext wa wb := Ext.trans (by (repeat (first | assumption | exact Ext.refl _ | (with_reducible refine Ext.stepS ?_ (by first | exact Nat.le_refl _ | (simp; done) | (simp; omega)) _) | (with_reducible refine Ext.stepN ?_ _) | (with_reducible refine Ext.stepD ?_) | (with_reducible refine Ext.stepA ?_ _)))) x2; have BX2 := Lib.hid (BX1.out.on EA); have KA := BX2.out.three; have R2 := Lib.hid r2; have G2' := Lib.hid (show wa.heap.size ≤ g from Nat.le_trans (by first | exact Nat.le_refl _ | (simp; done) | (simp; omega)) hg); have X2 := Lib.hid x2; have EH := Lib.hid EA; try (have NB := Lib.hid (Box.on (w := wa.alloc (.cells #[.int .i64 0, .int .i64 0, .slice none 0 0] 27)) (Box.alloc _ _ _) (Ext.trans (by (repeat (first | assumption | exact Ext.refl _ | (with_reducible refine Ext.stepS ?_ (by first | exact Nat.le_refl _ | (simp; done) | (simp; omega)) _) | (with_reducible refine Ext.stepN ?_ _) | (with_reducible refine Ext.stepD ?_) | (with_reducible refine Ext.stepA ?_ _)))) x2)); obtain ⟨z0, z1, z2⟩ := NB.out.three; obtain ⟨y0, y1, y2, y3⟩ := NB.out.free; have GN := Lib.hid (show wa.heap.size < g by have := hg; simp at this; omega)); clear r2 x2 hg EA))
    · go_wp2_with fail
      go_meet
      exact ⟨wb.heap.size, g, c2, f2, rfl, Box.alloc _ _ _, G2'.out, by have := R2.out.lt; omega, EH.out.size, hc2, rowIs_on R2.out (Ext.alloc _ _), EH.out.stepA _⟩
    · go_wp2_with fail
      go_meet
      exact ⟨wa.heap.size, g, c2, f2, rfl, ((NB.out.put 0 _).put 1 _).put 2 _, by have := GN.out; omega, by have := GN.out; omega, Nat.le_refl _, hc2, ((R2.out.setOther (by have := GN.out; simp; omega) _).setOther (by have := GN.out; simp; omega) _).setOther (by have := GN.out; simp; omega) _, by have EH' := EH.out; (repeat (first | assumption | exact Ext.refl _ | (with_reducible refine Ext.stepS ?_ (by first | exact Nat.le_refl _ | (simp; done) | (simp; omega)) _) | (with_reducible refine Ext.stepN ?_ _) | (with_reducible refine Ext.stepD ?_) | (with_reducible refine Ext.stepA ?_ _)))⟩
  case rest =>
    obtain ⟨nb, g, c2, f2, rfl, hnb, hg, hng, hnw, hc2, hrow, hext⟩ := hcut
    have HNB := Lib.hid hnb
    have HRW := Lib.hid hrow
    have HEX := Lib.hid hext
    have HNG := Lib.hid hng
    have HG := Lib.hid hg
    have HNW := Lib.hid hnw
    clear hnb hrow hext b0 b1 b2 hng hg hnw hne hne'
    go_wp2_with fail
    go_loopw [30] (fun i wr => ∃ k : Nat, k ≤ ks.length ∧ i = .int .i64 k ∧ wr.rowIs g 4 c2 (rowB (putsN S bs.length r ks bs k) f2) ∧ Box wr nb 27 #[.int .i64 r, .int .i64 S, .slice (some ⟨g, 0, none⟩) bs.length c2] ∧ Ext wa wr) (fun i _ => ks.length - (intOf i).toNat)
    case atStart => exact ⟨0, Nat.zero_le _, rfl, HRW.out, HNB.out, HEX.out⟩
    case round =>
      obtain ⟨k, hk, rfl, hrow, hbox, hext⟩ := hrel
      have HRR := Lib.hid hrow
      have HBB := Lib.hid hbox
      have HEE := Lib.hid hext
      clear hrow hbox hext
      by_cases hlt : k < ks.length
      · obtain ⟨kb, ko, rfl, hkc⟩ : ∃ b off, ka = some ⟨b, off, none⟩ ∧ wr.cell? ⟨b, off + k, none⟩ = some (.int .i64 (ks[k]?.getD 0)) := by
          obtain ⟨_, hq⟩ := (HKR.out.on (X1.out.trans HEE.out)).int
          rcases hq with h0 | ⟨b', off', rfl, hq⟩
          · omega
          · exact ⟨b', off', rfl, hq k hlt⟩
        obtain ⟨key, hkey⟩ : ∃ key, ks[k]?.getD 0 = key := ⟨_, rfl⟩
        have HKY := Lib.hid (show keyB key = true by rw [← hkey]; exact keysB_at HKB.out hlt)
        have HKX := Lib.hid hkey
        rw [hkey] at hkc
        obtain ⟨ys, hys⟩ : ∃ ys, putsN S bs.length r ks bs k = ys := ⟨_, rfl⟩
        have HYL := Lib.hid (show ys.length = bs.length by rw [← hys, putsN_length])
        have HYN := Lib.hid (show putsN S bs.length r ks bs (k + 1) = setsAt (gplace S key bs.length) ys r by show setsAt (gplace S (ks[k]?.getD 0) bs.length) (putsN S bs.length r ks bs k) r = _; rw [hkey, hys])
        have HRY := Lib.hid (show wr.rowIs g 4 c2 (rowB ys f2) by rw [← hys]; exact HRR.out)
        obtain ⟨b0, b1, b2⟩ := (BX1.out.on HEE.out).three
        clear hkey hys
        go_wp2_with fail
        refine (c_impl_gridOfSieve r S a bs.length cap _).mono ?_; rintro e wd ⟨rfl, xd⟩
        go_wp2_with fail
        refine (c_impl_placesIn r bs.length S key _ OK.out HKY.out).mono ?_; rintro e we ⟨pa, pc, rfl, o', xe⟩
        have XE := Lib.hid (xd.trans xe)
        have xdsz := Lib.hid xd.size
        have O := Lib.hid o'
        clear b0 b1 b2 xd xe o' hkc
        have HRE := Lib.hid (rowIs_on HRY.out XE.out)
        have HNE := Lib.hid (HBB.out.on XE.out)
        have HAE := Lib.hid (HEE.out.trans XE.out)
        have HGL := Lib.hid HRY.out.lt
        have HWE := Lib.hid XE.out.size
        go_wp2_with fail
        go_loopw [39] (fun i wr => ∃ j : Nat, j ≤ r ∧ i = .int .i64 j ∧ wr.rowIs g 4 c2 (rowB (setsAt (gplace S key bs.length) ys j) f2) ∧ Touch g (g + 1) we wr) (fun i _ => r - (intOf i).toNat)
        case atStart => exact ⟨0, Nat.zero_le _, rfl, HRE.out, Touch.refl _ _ _⟩
        case round =>
          obtain ⟨j, hj, rfl, hrow, ht⟩ := hrel
          have HRQ := Lib.hid hrow
          have HT := Lib.hid ht
          have HBQ := Lib.hid (HNE.out.beside ht (by have := HNG.out; omega))
          clear hrow ht
          by_cases hjr : j < r
          · obtain ⟨p, hp⟩ : ∃ p, gplace S key bs.length j = p := ⟨_, rfl⟩
            have hpl : p < bs.length := by rw [← hp]; exact gplace_lt S key j hn1
            have hlen : (setsAt (gplace S key bs.length) ys j).length = bs.length := by rw [setsAt_length, HYL.out]
            obtain ⟨pb, po, rfl, hpc⟩ : ∃ b off, pa = some ⟨b, off, none⟩ ∧ wr.cell? ⟨b, off + j, none⟩ = some (.int .i64 (p : Int)) := by
              obtain ⟨_, hq⟩ := (O.out.beside HT.out (by have h1 := HGL.out; have h5 := xdsz.out; omega)).reads.int
              rcases hq with h0 | ⟨b', off', rfl, hq⟩
              · omega
              · exact ⟨b', off', rfl, by rw [hq j hjr, gplaces_get S key bs.length r j hjr, hp]⟩
            obtain ⟨n0, n1, n2⟩ := HBQ.out.three
            have hgc := HRQ.out.cell (i := p) (by omega)
            rw [rowB_at (by rw [hlen]; exact hpl)] at hgc
            have hgf := HRQ.out.frozen p
            have HS := Lib.hid (show (wr.setCell ⟨g, p, none⟩ (.bool true)).rowIs g 4 c2 (rowB (setsAt (gplace S key bs.length) ys (j + 1)) f2) from by
              have := rowB_set HRQ.out (k := p) (by rw [hlen]; exact hpl) true
              show World.rowIs _ _ _ _ (rowB ((setsAt (gplace S key bs.length) ys j).set (gplace S key bs.length j) true) f2)
              rw [hp]
              exact this)
            have hpl' : (p : Int) < (bs.length : Int) := by omega
            have hp0 : (0 : Int) ≤ (p : Int) := by omega
            clear hp hlen
            go_wp2
            go_roundw
            case rel => exact ⟨j + 1, by omega, by go_num, HS.out, HT.out.one _ _⟩
            case measure => simp [intOf]; omega
          · obtain rfl : j = r := by omega
            have HX := Lib.hid (show Ext wa wr from Touch.ext HAE.out HT.out HG.out)
            go_wp2
            go_roundw
            case rel => exact ⟨k + 1, by omega, by go_num, by rw [HYN.out]; exact HRQ.out, HBQ.out, HX.out⟩
            case measure => simp [intOf]; omega
      · obtain rfl : k = ks.length := by omega
        obtain ⟨NZ, hNZ⟩ : ∃ z, putsN S bs.length r ks bs ks.length = z := ⟨_, rfl⟩
        have hNL : NZ.length = bs.length := by rw [← hNZ, putsN_length]
        have HVV := Lib.hid (show V = ⟨r, S, NZ⟩ by rw [← hNZ]; exact HV.out.symm)
        have HRN := Lib.hid (show wr.rowIs g 4 c2 (rowB NZ f2) by rw [← hNZ]; exact HRR.out)
        have HON := Lib.hid (own_rowB (lo := wa.heap.size) (by omega) HG.out HRN.out)
        have HZN := Lib.hid (BZ1.out.on HEE.out)
        have HEW := Lib.hid (X1.out.trans HEE.out)
        have HSW := Lib.hid HEE.out.size
        obtain ⟨n0, n1, n2⟩ := HBB.out.three
        obtain ⟨z0, z1, z2⟩ := HZN.out.three
        obtain ⟨y0, y1, y2, y3⟩ := HZN.out.free
        have hnbz : w.heap.size + 1 ≠ nb := by have := HSZ.out; have := HNW.out; omega
        have hnbz' : nb ≠ w.heap.size + 1 := fun h => hnbz h.symm
        have HNL := Lib.hid hNL
        clear hNZ hNL
        go_wp2
        refine bodyPost_ret (v := .tuple #[.agg #[.int .i64 r, .int .i64 S, .slice (some ⟨g, 0, none⟩) bs.length c2], .bool true]) (by simp [results, Try.results32, go_sem, z0, z1, z2]) rfl ⟨some ⟨g, 0, none⟩, c2, by rw [HVV.out, HNL.out], ?_, ?_⟩
        · rw [HVV.out]
          refine own_touch HON.out (lo' := w.heap.size + 1) (hi' := w.heap.size + 2) ?_ (by have := HSZ.out; omega) (by have := HSZ.out; omega) (Nat.le_refl _)
          (repeat (first | assumption | exact Touch.refl _ _ _ | (with_reducible refine Touch.stepS ?_ (by first | exact Nat.le_refl _ | (simp; done) | (simp; omega)) (by first | (simp; done) | (simp; omega)) _) | (with_reducible refine Touch.stepN ?_ _) | (with_reducible refine Touch.stepA ?_ _)))
        · have HEW' := HEW.out
          (repeat (first | assumption | exact Ext.refl _ | (with_reducible refine Ext.stepS ?_ (by first | exact Nat.le_refl _ | (simp; done) | (simp; omega)) _) | (with_reducible refine Ext.stepN ?_ _) | (with_reducible refine Ext.stepD ?_) | (with_reducible refine Ext.stepA ?_ _)))
end Go.Proofs.Ytfolflkbpdbkcaa
