/- HeavyTops: both sides. -/
import Derived.Test.YtfmjohpmfcmpoabTpd
import Derived.Test.YtfmjohpmfcmpoabL0p
import Derived.Test.YtfmjohpmfcmpoabSrw
namespace Go.Proofs.Ytfmjohpmfcmpoab
open Go.ChangeShapes Go.WideShapes Go.ChangeAt Go.RowKit
set_option linter.unusedVariables false
/-- those of the first k keys that were put often -/
def heavyTo (ks cs es : List Int) (least : Int) : Nat → List Int
  | 0 => []
  | k + 1 => heavyTo ks cs es least k ++ (if least ≤ getI cs k - getI es k then [getI ks k] else [])
theorem heavyTo_yes {ks cs es : List Int} {least : Int} {k : Nat} (h : least ≤ getI cs k - getI es k) : heavyTo ks cs es least (k + 1) = heavyTo ks cs es least k ++ [getI ks k] := by show _ ++ _ = _; rw [if_pos h]
theorem heavyTo_no {ks cs es : List Int} {least : Int} {k : Nat} (h : ¬ least ≤ getI cs k - getI es k) : heavyTo ks cs es least (k + 1) = heavyTo ks cs es least k := by show _ ++ _ = _; rw [if_neg h, List.append_nil]
theorem heavyTo_le (ks cs es : List Int) (least : Int) : ∀ k, (heavyTo ks cs es least k).length ≤ k
  | 0 => Nat.le_refl _
  | k + 1 => by
    have := heavyTo_le ks cs es least k
    by_cases h : least ≤ getI cs k - getI es k
    · rw [heavyTo_yes h, List.length_append, List.length_singleton]; omega
    · rw [heavyTo_no h]; omega
theorem heavyTo_mem {ks cs es : List Int} {least : Int} {x : Int} : ∀ {k : Nat}, x ∈ heavyTo ks cs es least k → ∃ j, j < k ∧ x = getI ks j
  | 0, h => by cases h
  | k + 1, h => by
    by_cases hc : least ≤ getI cs k - getI es k
    · rw [heavyTo_yes hc] at h
      rcases List.mem_append.1 h with h | h
      · obtain ⟨j, hj, e⟩ := heavyTo_mem h; exact ⟨j, by omega, e⟩
      · rw [List.mem_singleton] at h; exact ⟨k, by omega, h⟩
    · rw [heavyTo_no hc] at h
      obtain ⟨j, hj, e⟩ := heavyTo_mem h; exact ⟨j, by omega, e⟩
theorem heavyTo_nodup {ks cs es : List Int} {least : Int} : ∀ {k : Nat}, (∀ i j, j < i → i < k → getI ks j ≠ getI ks i) → (heavyTo ks cs es least k).Nodup
  | 0, _ => List.nodup_nil
  | k + 1, hd => by
    have ih := heavyTo_nodup (cs := cs) (es := es) (least := least) (k := k) (fun i j h1 h2 => hd i j h1 (by omega))
    by_cases hc : least ≤ getI cs k - getI es k
    · rw [heavyTo_yes hc]
      refine List.nodup_append.2 ⟨ih, by simp, fun a ha b hb => ?_⟩
      rw [List.mem_singleton] at hb
      obtain ⟨j, hj, rfl⟩ := heavyTo_mem ha
      rw [hb]; exact hd k j hj (by omega)
    · rw [heavyTo_no hc]; exact ih
def heavyR (R : Int) (ks cs es : List Int) (least : Int) : List Int × Bool := if topsB R ks cs es then (leastD 100 (heavyTo ks cs es least ks.length), true) else ([], false)
theorem heavyR_no {R : Int} {ks cs es : List Int} {least : Int} (h : topsB R ks cs es = false) : heavyR R ks cs es least = ([], false) := if_neg (by rw [h]; decide)
theorem heavyR_yes {R : Int} {ks cs es : List Int} {least : Int} (h : topsB R ks cs es = true) : heavyR R ks cs es least = (leastD 100 (heavyTo ks cs es least ks.length), true) := if_pos h
theorem heavyR_le {R : Int} {ks cs es : List Int} {least : Int} {rz : List Int} {rb : Bool} (h : heavyR R ks cs es least = (rz, rb)) : rz.length ≤ 1048576 := by
  cases ht : topsB R ks cs es
  · rw [heavyR_no ht] at h; cases h; exact Nat.zero_le _
  · rw [heavyR_yes ht] at h; cases h
    have := leastD_le 100 (heavyTo ks cs es least ks.length); omega
theorem own_empty0 (t : TypeId) (w : World) (lo : Nat) (h : lo ≤ w.heap.size) : Own t (w.alloc (.cells #[] t)) lo (w.heap.size + 1) (some ⟨w.heap.size, 0, none⟩) 0 0 (ints []) :=
  ⟨rfl, Nat.le_refl _, .inr ⟨w.heap.size, fun _ => default, rfl, h, Nat.lt_succ_self _, ⟨#[], Deep.blk_alloc_new _ _, rfl, fun i hi => absurd hi (Nat.not_lt_zero _)⟩, fun i hi => absurd hi (Nat.not_lt_zero _)⟩⟩
theorem RetSB.on {t : TypeId} {n : Nat} {vs : List Value} {b : Bool} {w u : World} {e : Ending} {w' : World} (x : Ext w u) (h : RetSB t n vs b u e w') : RetSB t n vs b w e w' := by
  obtain ⟨a, c, he, o, x2⟩ := h
  exact ⟨a, c, he, o.wide x.size (Nat.le_refl _), x.trans x2⟩
set_option maxRecDepth 100000 in
set_option maxHeartbeats 4000000 in
theorem c_impl_HeavyTops (R : Int) (a1 : Option Addr) (cap1 : Nat) (ks : List Int) (a2 : Option Addr) (cap2 : Nat) (cs : List Int) (a3 : Option Addr) (cap3 : Nat) (es : List Int) (least : Int) (w : World) {rz : List Int} {rb : Bool} (hv : heavyR R ks cs es least = (rz, rb)) (hl : ks.length + cs.length + es.length ≤ 1048576) (h : Reads3 w a1 ks.length (ints ks) a2 cs.length (ints cs) a3 es.length (ints es)) (hcap : ks.length ≤ cap1) :
    Calls Try.prog 28 #[.agg #[.int .i64 R, .slice a1 ks.length cap1, .slice a2 cs.length cap2, .slice a3 es.length cap3], .int .i64 least] w (RetSB 2 rz.length (ints rz) rb w) := by
  have H := Lib.hid h
  have HL := Lib.hid hl
  have HCAP := Lib.hid hcap
  obtain ⟨i0, hi, hz0, hz1, hz2⟩ := info_parts info_i64
  have BX := Lib.hid (Box.alloc w #[.int .i64 R, .slice a1 ks.length cap1, .slice a2 cs.length cap2, .slice a3 es.length cap3] 26)
  have X0 := Lib.hid (Ext.alloc w (.cells #[.int .i64 R, .slice a1 ks.length cap1, .slice a2 cs.length cap2, .slice a3 es.length cap3] 26))
  cases ht : topsB R ks cs es
  · rw [heavyR_no ht] at hv
    cases hv
    have HT := Lib.hid ht
    obtain ⟨b0, b1, b2, b3⟩ := BX.out.four
    clear ht h hl hcap
    go_enter Try.func28, Try.ntmps28
    go_wp2_with fail
    clear b0 b1 b2 b3
    refine (c_impl_ValidTops R _ _ ks _ _ cs _ _ es _ HT.out HL.out (H.out.on X0.out) HCAP.out).mono ?_; rintro e w1 ⟨rfl, x'⟩
    have X1 := Lib.hid (X0.out.trans x')
    clear x'
    go_wp2
    go_ret2
    exact (RetSB.nil _ _).on X1.out
  · rw [heavyR_yes ht] at hv
    cases hv
    have HT := Lib.hid ht
    have ok := tops_ok ht
    have hk32 : ks.length ≤ 32 := by have := ok.room.le; have := ok.room.hi; omega
    have hce := ok.room.c
    have hee := ok.room.e
    have OK := Lib.hid ok
    have HLE := Lib.hid (heavyTo_le ks cs es least)
    obtain ⟨n, hn⟩ : ∃ n, ks.length = n := ⟨_, rfl⟩
    have HN := Lib.hid hn
    have HND := Lib.hid (heavyTo_nodup (ks := ks) (cs := cs) (es := es) (least := least) (k := n) (fun i j h1 h2 => ok.diff i j h1 (by omega)))
    have HCE := Lib.hid (show cs.length = n by omega)
    have HEE := Lib.hid (show es.length = n by omega)
    have HTI := Lib.hid (show ∀ i, i < n → (1 ≤ getI cs i ∧ getI cs i ≤ 1000000000000) ∧ 0 ≤ getI es i ∧ getI es i < getI cs i from fun i hi => ⟨ok.c1 i (by omega), ok.e1 i (by omega)⟩)
    have hnI : (n : Int) ≤ 32 := by omega
    obtain ⟨b0, b1, b2, b3⟩ := BX.out.four
    clear ht h hl hcap ok hce hee hn hk32
    go_enter Try.func28, Try.ntmps28
    go_wp2_with fail
    clear b0 b1 b2 b3
    refine (c_impl_ValidTops R _ _ ks _ _ cs _ _ es _ HT.out HL.out (H.out.on X0.out) HCAP.out).mono ?_; rintro e w1 ⟨rfl, x'⟩
    have X1 := Lib.hid (X0.out.trans x')
    have BX1 := Lib.hid (BX.out.on x')
    clear x'
    obtain ⟨b0, b1, b2, b3⟩ := (BX1.out.past (.cells #[] 2)).four
    rw [HN.out] at b1
    rw [HCE.out] at b2
    rw [HEE.out] at b3
    go_wp2
    clear b0 b1 b2 b3
    go_loopw [6, 16] (fun v i wr => ∃ k : Nat, k ≤ n ∧ i = .int .i64 k ∧ wr.ownsRow w1.heap.size 2 1 v (heavyTo ks cs es least k).length (ints (heavyTo ks cs es least k)) ∧ Ext w1 wr) (fun _ i _ => n - (intOf i).toNat)
    case atStart => exact ⟨0, Nat.zero_le _, rfl, World.ownsRow_made _ _ _ (Nat.le_refl _) (Nat.zero_le _) rfl, Ext.alloc _ _⟩
    case round =>
      obtain ⟨k, hk, rfl, hown, hext⟩ := hrel
      have HO := Lib.hid hown
      have HE := Lib.hid hext
      have hml := HLE.out k
      by_cases hlt : k < n
      case pos =>
        clear hown hext
        obtain ⟨hz1', hr1⟩ := (H.out.r1.on (X1.out.trans HE.out)).int
        obtain ⟨hz2', hr2⟩ := (H.out.r2.on (X1.out.trans HE.out)).int
        obtain ⟨hz3', hr3⟩ := (H.out.r3.on (X1.out.trans HE.out)).int
        rw [HN.out] at hr1
        rw [HCE.out] at hr2
        rw [HEE.out] at hr3
        rcases hr1 with h0 | ⟨kb, ko, rfl, hc1⟩
        · omega
        rcases hr2 with h0 | ⟨cb, co, rfl, hc2⟩
        · omega
        rcases hr3 with h0 | ⟨eb, eo, rfl, hc3⟩
        · omega
        have c1 : wr.cell? ⟨kb, ko + k, none⟩ = some (.int .i64 (getI ks k)) := hc1 k hlt
        have c2 : wr.cell? ⟨cb, co + k, none⟩ = some (.int .i64 (getI cs k)) := hc2 k hlt
        have c3 : wr.cell? ⟨eb, eo + k, none⟩ = some (.int .i64 (getI es k)) := hc3 k hlt
        obtain ⟨⟨q3, q4⟩, q5, q6⟩ := HTI.out k hlt
        obtain ⟨y, hy⟩ : ∃ y, getI ks k = y := ⟨_, rfl⟩
        obtain ⟨z, hz⟩ : ∃ z, getI cs k = z := ⟨_, rfl⟩
        obtain ⟨u, hu⟩ : ∃ u, getI es k = u := ⟨_, rfl⟩
        rw [hy] at c1
        rw [hz] at c2 q3 q4 q6
        rw [hu] at c3 q5 q6
        have HY := Lib.hid hy
        have HZZ := Lib.hid hz
        have HU := Lib.hid hu
        have hltI : (k : Int) < (n : Int) := by omega
        obtain ⟨d0, d1, d2, d3⟩ := (BX1.out.on HE.out).four
        rw [HN.out] at d1
        rw [HCE.out] at d2
        rw [HEE.out] at d3
        clear hc1 hc2 hc3 hy hz hu hz1' hz2' hz3'
        by_cases hle : least ≤ z - u
        · have HM := Lib.hid (show heavyTo ks cs es least (k + 1) = heavyTo ks cs es least k ++ [y] by rw [heavyTo_yes (by rw [HZZ.out, HU.out]; exact hle), HY.out])
          obtain ⟨m, hm⟩ : ∃ m, (heavyTo ks cs es least k).length = m := ⟨_, rfl⟩
          have HML := Lib.hid hm
          rw [hm] at hml HO
          clear hm
          go_wp2
          go_quiet (fail)
          go_wp2_with (at_builtin; refine wpList_append_own _ rfl _ _ 22 rfl w1.heap.size 2 i0 (.int .i64 0) 1 8 Try.underlying22 hi hz0 hz1 hz2 rfl (by decide) _ _ _ rfl ((owns_on HO.out ?c0).alloc _) ⟨_, 0, none⟩ 1 1 [.int .i64 y] rfl rfl ?c1 ?c2 ?c3 ?c4 ?c5 ?_)
          case c0 => exact Ext.drewN _ _
          try (case c1 => exact one_cell_at _ _ _)
          case c2 => first | rfl | (intro u hu; simp at hu; subst hu; rfl)
          case c3 => unfold maxLen; omega
          case c4 => omega
          case c5 => have := HE.out.size; simp; omega
          intro v' w2 hown' hgrow _
          have HO2 := Lib.hid hown'
          have HE2 := Lib.hid (app_step (HE.out.trans (Ext.drewN _ _)) (owns_on HO.out (Ext.drewN _ _)) hgrow)
          clear hown' hgrow
          go_wp2
          go_roundw
          case rel => exact ⟨k + 1, by omega, by go_num, by rw [HM.out, List.length_append, ints_app1, List.length_singleton, HML.out]; exact HO2.out, HE2.out⟩
          case measure => simp [intOf]; omega
        · have HM := Lib.hid (show heavyTo ks cs es least (k + 1) = heavyTo ks cs es least k from heavyTo_no (by rw [HZZ.out, HU.out]; exact hle))
          have hle2 : z - u < least := by omega
          go_wp2
          go_quiet (fail)
          go_wp2
          go_roundw
          case rel => exact ⟨k + 1, by omega, by go_num, by rw [HM.out]; exact owns_on HO.out (Ext.drewN _ _), HE.out.trans (Ext.drewN _ _)⟩
          case measure => simp [intOf]; omega
      case neg =>
        obtain rfl : k = n := by omega
        have hlt' : ¬ (k : Int) < (k : Int) := by omega
        obtain ⟨a', c', hv', ho⟩ := Own.of_row (e := 0) hown
        subst hv'
        have HO' := Lib.hid ho
        have HB := Lib.hid (show (heavyTo ks cs es least k).length ≤ 1048576 by omega)
        have HS := Lib.hid (sort_least (room := 100) (zs := heavyTo ks cs es least k) (by omega) HND.out)
        clear ho hown hext
        go_wp2_with (go_at_call 81; refine (c_Sort _ _ _ _ _ (heavyTo ks cs es least k) _ HB.out HO'.out).mono ?_; rintro e w2 ⟨rfl, o2, t2⟩; have O2 := Lib.hid o2; have T2 := Lib.hid t2; clear o2 t2)
        go_ret2
        have ho := O2.out
        rw [HS.out] at ho
        have hln := ho.len
        rw [ints_length] at hln
        rw [HN.out, hln]
        exact RetSB.on X1.out ⟨_, _, rfl, ho.wide (Nat.le_refl _) T2.out.size, T2.out.ext HE.out (Nat.le_refl _)⟩
set_option maxRecDepth 100000 in
set_option maxHeartbeats 4000000 in
theorem c_spec_HeavyTops (R : Int) (a1 : Option Addr) (cap1 : Nat) (ks : List Int) (a2 : Option Addr) (cap2 : Nat) (cs : List Int) (a3 : Option Addr) (cap3 : Nat) (es : List Int) (least : Int) (w : World) {rz : List Int} {rb : Bool} (hv : heavyR R ks cs es least = (rz, rb)) (hl : ks.length + cs.length + es.length ≤ 1048576) (h : Reads3 w a1 ks.length (ints ks) a2 cs.length (ints cs) a3 es.length (ints es)) (hcap : ks.length ≤ cap1) :
    Calls Try.prog 27 #[.agg #[.int .i64 R, .slice a1 ks.length cap1, .slice a2 cs.length cap2, .slice a3 es.length cap3], .int .i64 least] w (RetSB 2 rz.length (ints rz) rb w) := by
  have H := Lib.hid h
  have HL := Lib.hid hl
  have HCAP := Lib.hid hcap
  obtain ⟨i0, hi, hz0, hz1, hz2⟩ := info_parts info_i64
  have BX := Lib.hid (Box.alloc w #[.int .i64 R, .slice a1 ks.length cap1, .slice a2 cs.length cap2, .slice a3 es.length cap3] 26)
  have X0 := Lib.hid (Ext.alloc w (.cells #[.int .i64 R, .slice a1 ks.length cap1, .slice a2 cs.length cap2, .slice a3 es.length cap3] 26))
  cases ht : topsB R ks cs es
  · rw [heavyR_no ht] at hv
    cases hv
    have HT := Lib.hid ht
    obtain ⟨b0, b1, b2, b3⟩ := BX.out.four
    clear ht h hl hcap
    go_enter Try.func27, Try.ntmps27
    go_wp2_with fail
    clear b0 b1 b2 b3
    refine (c_spec_l03Tops _ R a1 cap1 ks a2 cap2 cs a3 cap3 es _ HT.out HL.out (H.out.on X0.out) HCAP.out BX.out).mono ?_; rintro e w1 ⟨rfl, q, hq⟩; have x' := Ext.drewN (w.alloc (.cells #[.int .i64 R, .slice a1 ks.length cap1, .slice a2 cs.length cap2, .slice a3 es.length cap3] 26)) q; rw [← hq] at x'; clear hq
    have X1 := Lib.hid (X0.out.trans x')
    clear x'
    go_wp2
    go_ret2
    exact (RetSB.nil _ _).on X1.out
  · rw [heavyR_yes ht] at hv
    cases hv
    have HT := Lib.hid ht
    have ok := tops_ok ht
    have hk32 : ks.length ≤ 32 := by have := ok.room.le; have := ok.room.hi; omega
    have hce := ok.room.c
    have hee := ok.room.e
    have OK := Lib.hid ok
    have HLE := Lib.hid (heavyTo_le ks cs es least)
    obtain ⟨n, hn⟩ : ∃ n, ks.length = n := ⟨_, rfl⟩
    have HN := Lib.hid hn
    have HND := Lib.hid (heavyTo_nodup (ks := ks) (cs := cs) (es := es) (least := least) (k := n) (fun i j h1 h2 => ok.diff i j h1 (by omega)))
    have HCE := Lib.hid (show cs.length = n by omega)
    have HEE := Lib.hid (show es.length = n by omega)
    have HTI := Lib.hid (show ∀ i, i < n → (1 ≤ getI cs i ∧ getI cs i ≤ 1000000000000) ∧ 0 ≤ getI es i ∧ getI es i < getI cs i from fun i hi => ⟨ok.c1 i (by omega), ok.e1 i (by omega)⟩)
    have hnI : (n : Int) ≤ 32 := by omega
    obtain ⟨b0, b1, b2, b3⟩ := BX.out.four
    clear ht h hl hcap ok hce hee hn hk32
    go_enter Try.func27, Try.ntmps27
    go_wp2_with fail
    clear b0 b1 b2 b3
    refine (c_spec_l03Tops _ R a1 cap1 ks a2 cap2 cs a3 cap3 es _ HT.out HL.out (H.out.on X0.out) HCAP.out BX.out).mono ?_; rintro e w1 ⟨rfl, q, hq⟩; have x' := Ext.drewN (w.alloc (.cells #[.int .i64 R, .slice a1 ks.length cap1, .slice a2 cs.length cap2, .slice a3 es.length cap3] 26)) q; rw [← hq] at x'; clear hq
    have X1 := Lib.hid (X0.out.trans x')
    have BX1 := Lib.hid (BX.out.on x')
    clear x'
    obtain ⟨b0, b1, b2, b3⟩ := (BX1.out.past (.cells #[] 2)).four
    rw [HN.out] at b1
    rw [HCE.out] at b2
    rw [HEE.out] at b3
    go_wp2
    clear b0 b1 b2 b3
    go_loopw [6, 14] (fun v i wr => ∃ (k : Nat) (a : Option Addr) (c : Nat), k ≤ n ∧ i = .int .i64 k ∧ v = .slice a (leastD 100 (heavyTo ks cs es least k)).length c ∧ Own 2 wr w1.heap.size wr.heap.size a (leastD 100 (heavyTo ks cs es least k)).length c (ints (leastD 100 (heavyTo ks cs es least k))) ∧ Ext w1 wr) (fun _ i _ => n - (intOf i).toNat)
    case atStart => exact ⟨0, some ⟨w1.heap.size, 0, none⟩, 0, Nat.zero_le _, rfl, by rw [show heavyTo ks cs es least 0 = [] from rfl, leastD_nil]; rfl, by rw [show heavyTo ks cs es least 0 = [] from rfl, leastD_nil]; exact (own_empty0 _ _ _ (Nat.le_refl _)).wide (Nat.le_refl _) (by simp), Ext.alloc _ _⟩
    case round =>
      obtain ⟨k, a0, c0, hk, rfl, rfl, hown, hext⟩ := hrel
      have HO := Lib.hid hown
      have HE := Lib.hid hext
      have hml := HLE.out k
      by_cases hlt : k < n
      case pos =>
        clear hown hext
        obtain ⟨hz1', hr1⟩ := (H.out.r1.on (X1.out.trans HE.out)).int
        obtain ⟨hz2', hr2⟩ := (H.out.r2.on (X1.out.trans HE.out)).int
        obtain ⟨hz3', hr3⟩ := (H.out.r3.on (X1.out.trans HE.out)).int
        rw [HN.out] at hr1
        rw [HCE.out] at hr2
        rw [HEE.out] at hr3
        rcases hr1 with h0 | ⟨kb, ko, rfl, hc1⟩
        · omega
        rcases hr2 with h0 | ⟨cb, co, rfl, hc2⟩
        · omega
        rcases hr3 with h0 | ⟨eb, eo, rfl, hc3⟩
        · omega
        have c1 : wr.cell? ⟨kb, ko + k, none⟩ = some (.int .i64 (getI ks k)) := hc1 k hlt
        have c2 : wr.cell? ⟨cb, co + k, none⟩ = some (.int .i64 (getI cs k)) := hc2 k hlt
        have c3 : wr.cell? ⟨eb, eo + k, none⟩ = some (.int .i64 (getI es k)) := hc3 k hlt
        obtain ⟨⟨q3, q4⟩, q5, q6⟩ := HTI.out k hlt
        obtain ⟨y, hy⟩ : ∃ y, getI ks k = y := ⟨_, rfl⟩
        obtain ⟨z, hz⟩ : ∃ z, getI cs k = z := ⟨_, rfl⟩
        obtain ⟨u, hu⟩ : ∃ u, getI es k = u := ⟨_, rfl⟩
        rw [hy] at c1
        rw [hz] at c2 q3 q4 q6
        rw [hu] at c3 q5 q6
        have HY := Lib.hid hy
        have HZZ := Lib.hid hz
        have HU := Lib.hid hu
        have hltI : (k : Int) < (n : Int) := by omega
        obtain ⟨d0, d1, d2, d3⟩ := (BX1.out.on HE.out).four
        rw [HN.out] at d1
        rw [HCE.out] at d2
        rw [HEE.out] at d3
        clear hc1 hc2 hc3 hy hz hu hz1' hz2' hz3'
        by_cases hle : least ≤ z - u
        · have HM := Lib.hid (show heavyTo ks cs es least (k + 1) = heavyTo ks cs es least k ++ [y] by rw [heavyTo_yes (by rw [HZZ.out, HU.out]; exact hle), HY.out])
          have HP := Lib.hid (show putZ (leastD 100 (heavyTo ks cs es least k)) y = leastD 100 (heavyTo ks cs es least (k + 1)) by rw [HM.out]; exact putZ_least y (by omega))
          have hml2 : (leastD 100 (heavyTo ks cs es least k)).length ≤ 100 := leastD_le _ _
          have ho := HO.out
          obtain ⟨m, hm⟩ : ∃ m, (leastD 100 (heavyTo ks cs es least k)).length = m := ⟨_, rfl⟩
          rw [hm] at hml2 ho ⊢
          have HO' := Lib.hid ho
          have SZ := Lib.hid HE.out.size
          clear hm ho
          go_wp2
          go_quiet (fail)
          go_wp2_with (go_at_call 80; refine (c_spec_l00Put _ _ _ _ y _ HP.out (by omega) (HO'.out.reads.on (Ext.drewN _ _))).mono ?_; rintro e w2 ⟨a2', c2', rfl, o', x'⟩; have O2 := Lib.hid o'; have X2 := Lib.hid x'; clear o' x')
          go_roundw
          case rel => exact ⟨k + 1, a2', c2', by omega, by go_num, rfl, O2.out.wide SZ.out (Nat.le_refl _), HE.out.trans ((Ext.drewN _ _).trans X2.out)⟩
          case measure => simp [intOf]; omega
        · have HM := Lib.hid (show heavyTo ks cs es least (k + 1) = heavyTo ks cs es least k from heavyTo_no (by rw [HZZ.out, HU.out]; exact hle))
          have hle2 : z - u < least := by omega
          go_wp2
          go_quiet (fail)
          go_wp2
          go_roundw
          case rel => exact ⟨k + 1, a0, c0, by omega, by go_num, by rw [HM.out], by rw [HM.out]; exact HO.out.on (Ext.drewN _ _), HE.out.trans (Ext.drewN _ _)⟩
          case measure => simp [intOf]; omega
      case neg =>
        obtain rfl : k = n := by omega
        have hlt' : ¬ (k : Int) < (k : Int) := by omega
        have HO' := Lib.hid hown
        clear hown hext
        go_wp2
        go_ret2
        rw [HN.out]
        exact RetSB.on X1.out ⟨_, _, rfl, HO'.out, HE.out⟩
end Go.Proofs.Ytfmjohpmfcmpoab
