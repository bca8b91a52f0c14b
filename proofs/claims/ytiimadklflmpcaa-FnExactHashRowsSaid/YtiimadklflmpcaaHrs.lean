/- HashRows: both sides. -/
import Derived.Test.YtiimadklflmpcaaSsi
import Derived.Test.YtiimadklflmpcaaRow
import Derived.Test.YtiimadklflmpcaaIls
namespace Go.Proofs.Ytiimadklflmpcaa
open Go.ChangeShapes Go.WideShapes Go.ChangeAt Go.RowKit
set_option linter.unusedVariables false
def hrB (keys salts : List Int) : Bool := keysB keys && (decide (salts.length ≤ 32) && keysB salts)
def hrR (keys salts : List Int) : List (List Int) × Bool := if hrB keys salts then (salts.map (rowZ keys), true) else ([], false)
theorem hrR_yes {keys salts : List Int} (h : hrB keys salts = true) : hrR keys salts = (salts.map (rowZ keys), true) := by unfold hrR; rw [h]; rfl
theorem hrR_no {keys salts : List Int} (h : hrB keys salts = false) : hrR keys salts = ([], false) := by unfold hrR; rw [h]; rfl
theorem hr_row (keys salts : List Int) (i : Nat) (hi : i < salts.length) : rowS (salts.map (rowZ keys)) i = rowZ keys (salts[i]?.getD 0) := by
  unfold rowS; rw [List.getElem?_map, List.getElem?_eq_getElem hi]; rfl
theorem hr_len (keys salts : List Int) (i : Nat) (hi : i < salts.length) : (rowS (salts.map (rowZ keys)) i).length = keys.length := by rw [hr_row keys salts i hi, rowZ_length]
theorem totS_bound {α : Type} (zss : List (List α)) (d : Nat) : ∀ k, (∀ i, i < k → (rowS zss i).length ≤ d) → totS zss k ≤ k * d
  | 0, _ => Nat.zero_le _
  | k + 1, h => by
    have h1 := totS_bound zss d k (fun i hi => h i (by omega))
    have h2 := h k (Nat.lt_succ_self _)
    rw [totS_succ, Nat.succ_mul]; omega
theorem hrR_le {keys salts : List Int} {rz : List (List Int)} {rb : Bool} (h : hrR keys salts = (rz, rb)) : rz.length + totS rz rz.length ≤ 1048576 := by
  cases hb : hrB keys salts
  · rw [hrR_no hb] at h; cases h; exact Nat.zero_le _
  · rw [hrR_yes hb] at h; cases h
    unfold hrB at hb
    simp only [Bool.and_eq_true, decide_eq_true_eq] at hb
    rw [List.length_map]
    have hk := keysB_len hb.1
    have := totS_bound (salts.map (rowZ keys)) 256 salts.length (fun i hi => by rw [hr_len keys salts i hi]; exact hk)
    have : salts.length * 256 ≤ 32 * 256 := Nat.mul_le_mul_right _ hb.2.1
    omega
theorem RetSSB.nil (to ti : TypeId) (w : World) : RetSSB ints to ti [] false w (.returned (.tuple #[.slice none 0 0, .bool false])) w := ⟨none, 0, fun _ => ⟨none, 0⟩, rfl, OwnS.nil _ _ _ _ _ _ _, Ext.refl _⟩
theorem Own.grown_ne {t : TypeId} {w w' : World} {lo hi n c : Nat} {a : Option Addr} {vs : List Value} {row : Option Nat} (h : Own t w lo hi a n c vs) (hg : w.grownBy w' row) (hne : ∀ g, a = some ⟨g, 0, none⟩ → some g ≠ row) : Own t w' lo hi a n c vs := by
  refine ⟨h.1, h.2.1, ?_⟩
  rcases h.2.2 with h0 | ⟨g, f, rfl, g1, g2, hr, hf⟩
  · exact .inl h0
  · exact .inr ⟨g, f, rfl, g1, g2, hr.of_block (hg.block g hr.lt (hne g rfl)), hf⟩
theorem rowIs_type {w : World} {g c c' : Nat} {t t' : TypeId} {f f' : Nat → Value} (h : w.rowIs g t c f) (h' : w.rowIs g t' c' f') : t = t' := by
  obtain ⟨x, h1, _⟩ := h
  obtain ⟨y, h2, _⟩ := h'
  rw [h1] at h2
  cases h2; rfl
/-- rows put behind one another by append -/
structure AppS (to ti : TypeId) (w : World) (lo : Nat) (v : Value) (k : Nat) (ks : Nat → Hd) (zss : List (List Int)) : Prop where
  o : w.ownsRow lo to 1 v k ((hdsV ks zss).take k)
  r : ∀ i, i < k → Own ti w lo w.heap.size (ks i).a (rowS zss i).length (ks i).c (ints (rowS zss i))
  p : ∀ i j, i < k → j < k → i ≠ j → Apart (ks i).a (ks j).a
theorem hds_take {ks ks' : Nat → Hd} {zss : List (List Int)} {k : Nat} (hk : k < zss.length) (h : ∀ i, i < k → ks' i = ks i) : (hdsV ks' zss).take (k + 1) = (hdsV ks zss).take k ++ [hdV ks' zss k] := by
  rw [List.take_succ_eq_append_getElem (by rw [hdsV_length]; exact hk)]
  congr 1
  · apply List.ext_getElem?
    intro i
    rw [List.getElem?_take, List.getElem?_take]
    by_cases hi : i < k
    · rw [if_pos hi, if_pos hi, hdsV_get ks' zss i (by omega), hdsV_get ks zss i (by omega)]
      unfold hdV; rw [h i hi]
    · rw [if_neg hi, if_neg hi]
  · have := hdsV_get ks' zss k hk
    rw [List.getElem?_eq_getElem (by rw [hdsV_length]; exact hk)] at this
    rw [Option.some.inj this]
theorem AppS.step {to ti : TypeId} {w w2 w3 : World} {lo k : Nat} {v v' : Value} {ks : Nat → Hd} {zss : List (List Int)} {a' : Option Addr} {c' : Nat} {o : Obj} (hty : to ≠ ti) (hk : k < zss.length) (h : AppS to ti w lo v k ks zss) (hlo : lo ≤ w.heap.size) (x : Ext w w2)
    (o' : Own ti w2 w.heap.size w2.heap.size a' (rowS zss k).length c' (ints (rowS zss k))) (hv : w3.ownsRow lo to 1 v' (k + 1) ((hdsV ks zss).take k ++ [.slice a' (rowS zss k).length c'])) (hg : (w2.alloc o).grownBy w3 v.ownBlock) :
    AppS to ti w3 lo v' (k + 1) (setHd ks k a' c') zss := by
  have hne : ∀ g c f, w2.rowIs g ti c f → some g ≠ v.ownBlock := by
    intro g c f hr e
    rcases h.o.2 with ⟨rfl, _⟩ | ⟨g0, cap, cur, rfl, _, hg0, _⟩
    · cases e
    · cases e
      have hb := Below.block x _ (Array.getElem?_eq_some_iff.1 hg0).1
      obtain ⟨y, h1, _⟩ := hr
      rw [hb, hg0] at h1
      cases h1; exact hty rfl
  have keep : ∀ {hi n c : Nat} {b : Option Addr} {vs : List Value} {l : Nat}, Own ti w2 l hi b n c vs → Own ti w3 l hi b n c vs := fun ho =>
    (ho.on (Ext.alloc w2 o)).grown_ne hg (fun g e => by
      rcases ho.2.2 with ⟨h0, _⟩ | ⟨g', f, h1, _, _, hr, _⟩
      · rw [h0] at e; cases e
      · rw [h1] at e; cases e; exact hne _ _ _ hr)
  have hsz : w2.heap.size ≤ w3.heap.size := by have := hg.size; simp at this; omega
  refine ⟨?_, fun i hi => ?_, fun i j hi hj hij => ?_⟩
  · have e := hds_take (ks := ks) (ks' := setHd ks k a' c') hk (fun i hi => setHd_ne ks a' c' (by omega))
    rw [e]; unfold hdV; rw [setHd_at]; exact hv
  · by_cases e : i = k
    · subst e; rw [setHd_at]; exact (keep o').wide hlo hsz
    · rw [setHd_ne _ _ _ e]
      exact (keep ((h.r i (by omega)).on x)).wide (Nat.le_refl _) (Nat.le_trans x.size hsz)
  · by_cases e : i = k
    · subst e; rw [setHd_at, setHd_ne _ _ _ (show j ≠ i by omega)]
      exact o'.apart_of (h.r j (by omega)) (.inr (Nat.le_refl _))
    · rw [setHd_ne _ _ _ e]
      by_cases e2 : j = k
      · subst e2; rw [setHd_at]; exact (h.r i (by omega)).apart_of o' (.inl (Nat.le_refl _))
      · rw [setHd_ne _ _ _ e2]; exact h.p i j (by omega) (by omega) hij
theorem AppS.all {to ti : TypeId} {w : World} {lo n : Nat} {v : Value} {ks : Nat → Hd} {zss : List (List Int)} (hty : to ≠ ti) (hn : zss.length = n) (h : AppS to ti w lo v n ks zss) : ∃ a c, v = .slice a n c ∧ OwnS ints to ti w lo w.heap.size a n c ks zss := by
  have ho := h.o
  rw [List.take_of_length_le (by rw [hdsV_length]; omega)] at ho
  obtain ⟨a, c, rfl, h1⟩ := Own.of_row (e := 0) ho
  refine ⟨a, c, rfl, h1, h.r, h.p, fun i hi => ?_⟩
  intro x y hx hy hxy
  rcases (h.r i hi).2.2 with ⟨h0, _⟩ | ⟨g, f, h2, _, _, hr, _⟩
  · rw [h0] at hx; cases hx
  · rcases h1.2.2 with ⟨h0, _⟩ | ⟨g', f', h3, _, _, hr', _⟩
    · rw [h0] at hy; cases hy
    · rw [h2] at hx; rw [h3] at hy
      cases hx; cases hy
      change g = g' at hxy
      subst hxy
      exact hty (rowIs_type hr' hr)
theorem c_areSalts_k (a : Option Addr) (n cap : Nat) (zs : List Int) (w : World) {b : Bool} (hb : (decide (n ≤ 32) && keysB zs) = b) (hm : n ≤ maxLen) (h : Reads w a n (ints zs)) :
    Calls Try.prog 68 #[.slice a n cap] w fun e w' => e = .returned (.bool b) ∧ w = w' := by
  have H := Lib.hid h
  by_cases h1 : n ≤ 32
  · have hI : (n : Int) ≤ 32 := by omega
    have HB := Lib.hid (show keysB zs = b by rw [← hb, decide_eq_true h1]; rfl)
    clear hb h h1
    go_enter Try.func68, Try.ntmps68
    go_wp2_with (go_at_call 67; refine (c_impl_AreKeys_of _ _ _ zs _ HB.out hm H.out).mono ?_; rintro e w' ⟨rfl, rfl⟩)
    go_ret
    exact ⟨rfl, rfl⟩
  · have hI : (32 : Int) < (n : Int) := by omega
    have HB := Lib.hid (show b = false by rw [← hb, decide_eq_false h1]; rfl)
    clear hb h h1
    go_enter Try.func68, Try.ntmps68
    go_wp2
    go_ret
    exact ⟨by rw [HB.out]; rfl, rfl⟩
set_option maxHeartbeats 2000000 in
theorem c_impl_HashRows (a : Option Addr) (n cap : Nat) (zs : List Int) (a2 : Option Addr) (m cap2 : Nat) (ss : List Int) (w : World) {rz : List (List Int)} {rb : Bool} (hv : hrR zs ss = (rz, rb)) (hm : n ≤ 1048576) (h : Reads w a n (ints zs)) (hm2 : m ≤ 1048576) (h2 : Reads w a2 m (ints ss)) :
    Calls Try.prog 17 #[.slice a n cap, .slice a2 m cap2] w (RetSSB ints 22 2 rz rb w) := by
  have hz2 := h2.int.1
  have H := Lib.hid h
  have H2 := Lib.hid h2
  have HM := Lib.hid (show n ≤ maxLen by unfold maxLen; omega)
  have HM2 := Lib.hid (show m ≤ maxLen by unfold maxLen; omega)
  clear h hm
  cases hk : keysB zs
  · rw [hrR_no (by unfold hrB; rw [hk]; rfl)] at hv
    cases hv
    have HK := Lib.hid hk
    clear hk
    go_enter Try.func17, Try.ntmps17
    go_wp2_with (go_at_call 67; refine (c_impl_AreKeys_of a n cap zs _ HK.out HM.out H.out).mono ?_; rintro e w' ⟨rfl, rfl⟩)
    go_ret2
    exact RetSSB.nil _ _ _
  cases hs : (decide (m ≤ 32) && keysB ss)
  · rw [hrR_no (by unfold hrB; rw [hk, hz2, hs]; rfl)] at hv
    cases hv
    have HK := Lib.hid hk
    have HS := Lib.hid hs
    clear hk hs
    go_enter Try.func17, Try.ntmps17
    go_wp2_with (first | (go_at_call 67; refine (c_impl_AreKeys_of a n cap zs _ HK.out HM.out H.out).mono ?_; rintro e w' ⟨rfl, rfl⟩) | (go_at_call 68; refine (c_areSalts_k a2 m cap2 ss _ HS.out HM2.out H2.out).mono ?_; rintro e w' ⟨rfl, rfl⟩))
    go_ret2
    exact RetSSB.nil _ _ _
  · rw [hrR_yes (by unfold hrB; rw [hk, hz2, hs]; rfl)] at hv
    cases hv
    have hs' := hs
    simp only [Bool.and_eq_true, decide_eq_true_eq] at hs'
    obtain ⟨hm32, hks⟩ := hs'
    have HKS := Lib.hid hks
    have HK := Lib.hid hk
    have HS := Lib.hid hs
    have HZ2 := Lib.hid hz2
    have HLEN := Lib.hid (show (ss.map (rowZ zs)).length = m by rw [List.length_map]; exact hz2)
    have HROW := Lib.hid (show ∀ i, i < m → rowS (ss.map (rowZ zs)) i = rowZ zs (ss[i]?.getD 0) from fun i hi => hr_row zs ss i (by omega))
    have hmI : (m : Int) ≤ 32 := by omega
    have HC2 := Lib.hid h2.int.2
    have hmk := run_make_row' (P := Try.prog) 23 22 (.slice none 0 0) 24 Try.underlying23 (by kernel_rfl) rfl .i64 .i64 m (by omega) (by omega)
    have RM := Lib.hid (World.rowIs_made w (.slice none 0 0) m 22)
    obtain ⟨RZ, hRZ⟩ : ∃ RZ, ss.map (rowZ zs) = RZ := ⟨_, rfl⟩
    rw [hRZ] at HLEN HROW ⊢
    clear hRZ
    clear hk hs hz2 hks h2 hm2
    go_enter Try.func17, Try.ntmps17
    go_wp2_with (first | (go_at_call 67; refine (c_impl_AreKeys_of a n cap zs _ HK.out HM.out H.out).mono ?_; rintro e w' ⟨rfl, rfl⟩) | (go_at_call 68; refine (c_areSalts_k a2 m cap2 ss _ HS.out HM2.out H2.out).mono ?_; rintro e w' ⟨rfl, rfl⟩))
    go_loopw [22] (fun i wr => ∃ (k : Nat) (ks : Nat → Hd), k ≤ m ∧ i = .int .i64 k ∧ MadeS ints 22 2 wr w.heap.size m ks RZ k ∧ Ext w wr) (fun i _ => m - (intOf i).toNat)
    case atStart => exact ⟨0, fun _ => ⟨none, 0⟩, Nat.zero_le _, rfl, MadeS.zero _ RM.out, Ext.alloc _ _⟩
    case round =>
      obtain ⟨k, ks, hk, rfl, hmd, hx⟩ := hrel
      have HMD := Lib.hid hmd
      have HX := Lib.hid hx
      clear hmd hx
      by_cases hlt : k < m
      · have hltI : (k : Int) < (m : Int) := by omega
        rcases HC2.out with h0 | ⟨b, off, rfl, hc⟩
        · omega
        have cz := HX.out.some (hc k hlt)
        obtain ⟨x, hx⟩ : ∃ x, ss[k]?.getD 0 = x := ⟨_, rfl⟩
        have HKX := Lib.hid (show keyB x = true by rw [← hx]; exact keysB_at HKS.out (by rw [HZ2.out]; exact hlt))
        have HR := Lib.hid (show rowS RZ k = rowZ zs x by rw [HROW.out k hlt, hx])
        rw [hx] at cz
        clear hc hx
        go_wp2_with fail
        go_at_call 69; refine (c_impl_hashKeys _ _ _ zs x _ HK.out HKX.out (H.out.on HX.out)).mono ?_; rintro e w2 ⟨a', c', rfl, o', x'⟩
        have HLE := Lib.hid (show (rowS RZ k).length = zs.length by rw [HR.out, rowZ_length])
        have HN := Lib.hid (HMD.out.next (a' := a') (c' := c') hlt x' (by rw [HR.out, rowZ_length]; exact o'))
        have HX2 := Lib.hid (show Ext w (w2.setCell ⟨w.heap.size, k, none⟩ (.slice a' (rowS RZ k).length c')) from Below.setCell (HX.out.trans x') (Nat.le_refl _) _)
        rw [HLE.out] at HN HX2
        have hrow := HMD.out.o.of_block (Below.block x' w.heap.size HMD.out.o.lt)
        have hcur := hrow.cell hlt
        have hfro := hrow.frozen k
        clear o' x' hrow
        go_wp2
        go_roundw
        case rel => exact ⟨k + 1, _, by omega, by go_num, HN.out, HX2.out⟩
        case measure => simp [intOf]; omega
      · obtain rfl : k = m := by omega
        have hlt' : ¬ (k : Int) < (k : Int) := by omega
        go_wp2
        go_ret2
        exact ⟨_, _, ks, by rw [HLEN.out]; rfl, by rw [HLEN.out]; exact HMD.out.all HLEN.out, HX.out⟩
theorem ownsOnS {w w' : World} {base : Nat} {e : TypeId} {size : Nat} {v : Value} {n : Nat} {xs : List Value} (h : w.ownsRow base e size v n xs) (x : Ext w w') : w'.ownsRow base e size v n xs := by
  refine ⟨h.1, ?_⟩
  rcases h.2 with h0 | ⟨g, cap, cur, rfl, hb, hg, rest⟩
  · exact .inl h0
  · exact .inr ⟨g, cap, cur, rfl, hb, (Below.block x g (Array.getElem?_eq_some_iff.1 hg).1).trans hg, rest⟩
set_option maxRecDepth 20000 in
set_option maxHeartbeats 2000000 in
theorem c_spec_HashRows (a : Option Addr) (n cap : Nat) (zs : List Int) (a2 : Option Addr) (m cap2 : Nat) (ss : List Int) (w : World) {rz : List (List Int)} {rb : Bool} (hv : hrR zs ss = (rz, rb)) (hm : n ≤ 1048576) (h : Reads w a n (ints zs)) (hm2 : m ≤ 1048576) (h2 : Reads w a2 m (ints ss)) :
    Calls Try.prog 15 #[.slice a n cap, .slice a2 m cap2] w (RetSSB ints 22 2 rz rb w) := by
  have hz2 := h2.int.1
  have H := Lib.hid h
  have H2 := Lib.hid h2
  have HM := Lib.hid (show n ≤ maxLen by unfold maxLen; omega)
  have HM2 := Lib.hid (show m ≤ maxLen by unfold maxLen; omega)
  clear h hm
  cases hk : keysB zs
  · rw [hrR_no (by unfold hrB; rw [hk]; rfl)] at hv
    cases hv
    have HK := Lib.hid hk
    clear hk
    go_enter Try.func15, Try.ntmps15
    go_wp2_with (go_at_call_of 65 (Value.slice a n cap); refine (c_spec_l02Keys_of a n cap zs _ HK.out HM.out H.out).mono ?_; rintro e w' ⟨rfl, rfl⟩)
    go_ret2
    exact RetSSB.nil _ _ _
  cases hs : keysB ss
  · rw [hrR_no (by unfold hrB; rw [hk, hs]; simp)] at hv
    cases hv
    have HK := Lib.hid hk
    have HS := Lib.hid hs
    clear hk hs
    go_enter Try.func15, Try.ntmps15
    go_wp2_with (first | (go_at_call_of 65 (Value.slice a n cap); refine (c_spec_l02Keys_of a n cap zs _ HK.out HM.out H.out).mono ?_; rintro e w' ⟨rfl, rfl⟩) | (go_at_call_of 65 (Value.slice a2 m cap2); refine (c_spec_l02Keys_of a2 m cap2 ss _ HS.out HM2.out H2.out).mono ?_; rintro e w' ⟨rfl, rfl⟩))
    go_ret2
    exact RetSSB.nil _ _ _
  by_cases hm32 : m ≤ 32
  case neg =>
    rw [hrR_no (by unfold hrB; rw [hk, hs, hz2, decide_eq_false hm32]; rfl)] at hv
    cases hv
    have HK := Lib.hid hk
    have HS := Lib.hid hs
    have hI : (32 : Int) < (m : Int) := by omega
    clear hk hs
    go_enter Try.func15, Try.ntmps15
    go_wp2_with (first | (go_at_call_of 65 (Value.slice a n cap); refine (c_spec_l02Keys_of a n cap zs _ HK.out HM.out H.out).mono ?_; rintro e w' ⟨rfl, rfl⟩) | (go_at_call_of 65 (Value.slice a2 m cap2); refine (c_spec_l02Keys_of a2 m cap2 ss _ HS.out HM2.out H2.out).mono ?_; rintro e w' ⟨rfl, rfl⟩))
    go_ret2
    exact RetSSB.nil _ _ _
  · rw [hrR_yes (by unfold hrB; rw [hk, hs, hz2, decide_eq_true hm32]; rfl)] at hv
    cases hv
    have HK := Lib.hid hk
    have HS := Lib.hid hs
    have hmI : (m : Int) ≤ 32 := by omega
    have HZ2 := Lib.hid hz2
    have HLEN := Lib.hid (show (ss.map (rowZ zs)).length = m by rw [List.length_map]; exact hz2)
    have HROW := Lib.hid (show ∀ i, i < m → rowS (ss.map (rowZ zs)) i = rowZ zs (ss[i]?.getD 0) from fun i hi => hr_row zs ss i (by omega))
    have HC2 := Lib.hid h2.int.2
    obtain ⟨i0, hi, hz0, hz1, hz2'⟩ := info_parts (show (Try.prog.info? 22).map (fun i => (i.zero, i.size, i.bytes)) = some (some (.slice none 0 0), 1, 24) by kernel_rfl)
    obtain ⟨RZ, hRZ⟩ : ∃ RZ, ss.map (rowZ zs) = RZ := ⟨_, rfl⟩
    rw [hRZ] at HLEN HROW ⊢
    clear hRZ hk hs hz2 h2 hm2
    go_enter Try.func15, Try.ntmps15
    go_wp2_with (first | (go_at_call_of 65 (Value.slice a n cap); refine (c_spec_l02Keys_of a n cap zs _ HK.out HM.out H.out).mono ?_; rintro e w' ⟨rfl, rfl⟩) | (go_at_call_of 65 (Value.slice a2 m cap2); refine (c_spec_l02Keys_of a2 m cap2 ss _ HS.out HM2.out H2.out).mono ?_; rintro e w' ⟨rfl, rfl⟩))
    go_loopw [6, 7] (fun v i wr => ∃ (k : Nat) (ks : Nat → Hd), k ≤ m ∧ i = .int .i64 k ∧ AppS 22 2 wr w.heap.size v k ks RZ ∧ Ext w wr) (fun _ i _ => m - (intOf i).toNat)
    case atStart => exact ⟨0, fun _ => ⟨none, 0⟩, Nat.zero_le _, rfl, ⟨World.ownsRow_made _ _ _ (Nat.le_refl _) (Nat.zero_le _) rfl, fun i hi => absurd hi (Nat.not_lt_zero _), fun i j hi => absurd hi (Nat.not_lt_zero _)⟩, Ext.alloc _ _⟩
    case round =>
      obtain ⟨k, ks, hk, rfl, ha, hext⟩ := hrel
      have HA := Lib.hid ha
      have HO := Lib.hid ha.o
      have HE := Lib.hid hext
      clear ha hext
      by_cases hlt : k < m
      · have hltI : (k : Int) < (m : Int) := by omega
        rcases HC2.out with h0 | ⟨b, off, rfl, hc⟩
        · omega
        have cz := HE.out.some (hc k hlt)
        obtain ⟨x, hx⟩ : ∃ x, ss[k]?.getD 0 = x := ⟨_, rfl⟩
        have HKX := Lib.hid (show keyB x = true by rw [← hx]; exact keysB_at HS.out (by rw [HZ2.out]; exact hlt))
        have HR := Lib.hid (show rowS RZ k = rowZ zs x by rw [HROW.out k hlt, hx])
        rw [hx] at cz
        clear hc hx
        go_wp2_with (first | (go_at_call 66; refine (c_spec_l02Row _ _ _ zs x _ HK.out HKX.out (H.out.on HE.out)).mono ?_; rintro e w2 ⟨a', c', rfl, o', x'⟩) | (at_builtin; refine wpList_append_own _ rfl _ _ 23 rfl w.heap.size 22 i0 (.slice none 0 0) 1 24 Try.underlying23 hi hz0 hz1 hz2' rfl (by decide) _ _ _ rfl ((ownsOnS HO.out x').alloc _) ⟨_, 0, none⟩ 1 1 [.slice a' zs.length c'] rfl rfl ?c1 ?c2 ?c3 ?c4 ?c5 ?_))
        case c1 => exact one_cell_at _ _ _
        case c2 => intro u hu; simp at hu; subst hu; rfl
        case c3 => unfold maxLen; omega
        case c4 => omega
        case c5 => have := HE.out.size; have := x'.size; simp; omega
        intro v' w3 hown' hgrow _
        have HA' := Lib.hid (HA.out.step (a' := a') (c' := c') (by decide) (by rw [HLEN.out]; exact hlt) HE.out.size x' (by rw [HR.out, rowZ_length]; exact o') (by rw [HR.out, rowZ_length]; exact hown') hgrow)
        have HE' := Lib.hid (app_step (HE.out.trans x') (ownsOnS HO.out x') hgrow)
        clear hown' hgrow o' x'
        go_wp2
        go_roundw
        case rel => exact ⟨k + 1, _, by omega, by go_num, HA'.out, HE'.out⟩
        case measure => simp [intOf]; omega
      · obtain rfl : k = m := by omega
        have hlt' : ¬ (k : Int) < (k : Int) := by omega
        obtain ⟨a', c', hv, ho⟩ := HA.out.all (by decide) HLEN.out
        subst hv
        have HO' := Lib.hid ho
        clear ho
        go_wp2
        go_ret2
        exact ⟨_, _, ks, by rw [HLEN.out]; rfl, by rw [HLEN.out]; exact HO'.out, HE.out⟩
end Go.Proofs.Ytiimadklflmpcaa
