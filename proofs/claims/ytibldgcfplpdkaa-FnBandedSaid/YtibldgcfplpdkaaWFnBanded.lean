/- The walk of the law FnBanded. -/
import Derived.Test.YtibldgcfplpdkaaBdp
import Derived.Test.YtibldgcfplpdkaaApg
import Derived.Deep.QuietTactic
import Derived.BigQuiet
import Derived.IntWalk
namespace Go.Proofs.Ytibldgcfplpdkaa
open Go.ChangeShapes Go.WideShapes Go.ChangeAt Go.RowKit Go.Proofs.Ytibldgcfplpdkaa.Flo
set_option linter.unusedVariables false
theorem info_boolH : (Try.prog.info? 4).map (fun i => (i.zero, i.size, i.bytes)) = some (some (.bool false), 1, 1) := by kernel_rfl
theorem bools_app (zs : List Bool) (x : Bool) : bools (zs ++ [x]) = bools zs ++ [.bool x] := by unfold bools; rw [List.map_append]; rfl
set_option maxHeartbeats 1000000 in
theorem c_b10Ints_same (a a' : Option Addr) (n cap cap' : Nat) (zs : List Int) (w : World) (hn : n ≤ 1048576) (h : Reads w a n (ints zs)) (h' : Reads w a' n (ints zs)) :
    Calls Try.prog 35 #[.slice a n cap, .slice a' n cap'] w fun e w' => e = .returned (.bool true) ∧ ∃ q, w' = w.drewN q := by
  obtain ⟨hz, hr⟩ := h.int
  obtain ⟨_, hr'⟩ := h'.int
  have HR := Lib.hid hr
  have HR' := Lib.hid hr'
  clear h h' hr hr' hz
  go_enter Try.func35, Try.ntmps35
  go_wp2
  go_loopw [13] (fun i wr => ∃ k q : Nat, k ≤ n ∧ i = .int .i64 (k : Int) ∧ wr = w.drewN q) (fun i _ => n - (intOf i).toNat)
  case atStart => exact ⟨0, 0, Nat.zero_le _, rfl, (World.drewN_zero _).symm⟩
  case round =>
    obtain ⟨k, q, hk, rfl, rfl⟩ := hrel
    by_cases hlt : k < n
    · have hltI : (k : Int) < (n : Int) := by omega
      rcases HR.out with h0 | ⟨b, off, rfl, hc⟩
      · omega
      rcases HR'.out with h0 | ⟨b', off', rfl, hc'⟩
      · omega
      have c1 := hc k hlt
      have c2 := hc' k hlt
      obtain ⟨x, hx⟩ : ∃ x, zs[k]?.getD 0 = x := ⟨_, rfl⟩
      rw [hx] at c1 c2
      clear hx hc hc'
      go_wp2
      go_quiet (fail)
      go_wp2
      go_roundw
      case rel => exact ⟨k + 1, _, by omega, by go_num, by first | rfl | exact World.drewN_drewN _ _ _ | exact (World.drewN_drewN _ _ _).symm | simp⟩
      case measure => simp [intOf]; omega
    · obtain rfl : k = n := by omega
      go_wp2
      go_ret
      exact ⟨rfl, _, rfl⟩
theorem totS_bd {α : Type} (zss : List (List α)) (d : Nat) : ∀ k, (∀ i, i < k → (rowS zss i).length ≤ d) → totS zss k ≤ k * d
  | 0, _ => Nat.zero_le _
  | k + 1, h => by
    have h1 := totS_bd zss d k (fun i hi => h i (by omega))
    have h2 := h k (Nat.lt_succ_self _)
    rw [totS_succ, Nat.succ_mul]; omega
theorem tot_more {α : Type} {zss : List (List α)} {x : List α} {n cc : Nat} (hz : zss.length = cc) (hc2 : 2 ≤ cc) (hc : cc ≤ 6) (n16 : n ≤ 16) (h : ∀ i, i < cc → (rowS zss i).length = n) (hx : x = rowS zss 0) : (zss ++ [x]).length + totS (zss ++ [x]) (zss ++ [x]).length ≤ 1048576 := by
  have hl : (zss ++ [x]).length = cc + 1 := by rw [List.length_append, List.length_singleton, hz]
  have := totS_bd (zss ++ [x]) 16 (cc + 1) (fun i hi => by
    rw [rowS_app]
    by_cases e : i < zss.length
    · rw [if_pos e, h i (by omega)]; exact n16
    · rw [if_neg e, if_pos (by omega), hx, h 0 (by omega)]; exact n16)
  rw [hl]
  have : (cc + 1) * 16 ≤ 7 * 16 := Nat.mul_le_mul_right _ (by omega)
  omega
theorem hits_le (c : Int) : ∀ (n : Nat) (xs : List Int), xs.length ≤ n → hits c xs ≤ xs.length
  | 0, xs, h => by
    have : xs = [] := List.eq_nil_of_length_eq_zero (by omega)
    subst this; exact Nat.zero_le _
  | n + 1, [], h => Nat.zero_le _
  | n + 1, [x], h => Nat.zero_le _
  | n + 1, a :: b :: t, h => by
    have := hits_le c n t (by simp at h; omega)
    show (if a = 0 ∧ b = c then 1 else 0) + hits c t ≤ t.length + 1 + 1
    split <;> omega
/-- what the pairs are -/
theorem band_all {zss : List (List Bool)} {x : List Bool} {W M n cc : Nat} (hz : zss.length = cc) (hcc : 2 ≤ cc) (hc : cc ≤ 6) (hW : 1 ≤ W) (hM : 1 ≤ M) (hn : W * M = n) (n1 : 1 ≤ n) (n16 : n ≤ 16) (h : ∀ i, i < cc → (rowS zss i).length = n) (hx : x = rowS zss 0) :
    ∃ P : List Int, bandR (zss ++ [x]) (W : Int) = (P, true) ∧ P.length ≤ 1024 ∧ (∃ m, P.length = 2 * m) ∧ hits (cc : Int) P = 1 := by
  have hl : (zss ++ [x]).length = cc + 1 := by rw [List.length_append, List.length_singleton, hz]
  have hrow : ∀ i, i < cc + 1 → (rowS (zss ++ [x]) i).length = n := fun i hi => by
    rw [rowS_app]
    by_cases e : i < zss.length
    · rw [if_pos e]; exact h i (by omega)
    · rw [if_neg e, if_pos (by omega), hx]; exact h 0 (by omega)
  have hr0 : rowS (zss ++ [x]) 0 = rowS zss 0 := by rw [rowS_app, if_pos (by omega)]
  have hrc : rowS (zss ++ [x]) cc = rowS zss 0 := by rw [rowS_app, if_neg (by omega), if_pos (by omega), hx]
  have hp : ptsb (zss ++ [x]) = true := ptsb_yes (by omega) (by omega) (bitsB_yes (by rw [hrow 0 (by omega)]; omega) (by rw [hrow 0 (by omega)]; omega)) (fun i hi => by rw [hrow i (by omega), hrow 0 (by omega)])
  have hd : divB (W : Int) (rowS (zss ++ [x]) 0).length = true := by
    rw [divB_nat hW, hrow 0 (by omega), ← hn]
    exact decide_eq_true (Nat.mul_mod_right W M)
  have hq : (rowS (zss ++ [x]) 0).length / (W : Int).toNat = M := by
    rw [hrow 0 (by omega), ← hn, Int.toNat_natCast]; exact Nat.mul_div_cancel_left M (by omega)
  refine ⟨_, bandR_yes (bandOk_yes hp hd), ?_, prAll_ev _ _ _, ?_⟩
  · have h1 := prAll_le (bpP (zss ++ [x]) W) (zss ++ [x]).length (zss ++ [x]).length
    rw [hl] at h1 ⊢
    have : 2 * (cc + 1) * (cc + 1) ≤ 2 * 7 * 7 := Nat.mul_le_mul (by omega) (by omega)
    omega
  · rw [hl]
    refine hits_all _ _ _ (by omega) (by omega) ?_ cc
    unfold bpP
    rw [hr0, hrc, Int.toNat_natCast]
    refine bandB_yes (j := 0) (by have := hq; rw [hr0, Int.toNat_natCast] at this; rw [this]; omega) ?_
    unfold sameAt
    exact allTo_yes fun i hi => by simp
theorem near_all {zss : List (List Nat)} {x : List Nat} {n cc k : Nat} (hz : zss.length = cc) (hcc : 2 ≤ cc) (hc : cc ≤ 6) (n1 : 1 ≤ n) (n16 : n ≤ 16) (hk : k < 17) (h : ∀ i, i < cc → (rowS zss i).length = n ∧ Small5 (rowS zss i)) (hx : x = rowS zss 0) :
    ∃ P : List Int, nearR (zss ++ [x]) (farV k) = (P, true) ∧ P.length ≤ 1024 ∧ (∃ m, P.length = 2 * m) ∧ hits (cc : Int) P = 1 ∧ BitsS (zss ++ [x]) := by
  have hl : (zss ++ [x]).length = cc + 1 := by rw [List.length_append, List.length_singleton, hz]
  have hrow : ∀ i, i < cc + 1 → (rowS (zss ++ [x]) i).length = n ∧ Small5 (rowS (zss ++ [x]) i) := fun i hi => by
    rw [rowS_app]
    by_cases e : i < zss.length
    · rw [if_pos e]; exact h i (by omega)
    · rw [if_neg e, if_pos (by omega), hx]; exact h 0 (by omega)
  have hr0 : rowS (zss ++ [x]) 0 = rowS zss 0 := by rw [rowS_app, if_pos (by omega)]
  have hrc : rowS (zss ++ [x]) cc = rowS zss 0 := by rw [rowS_app, if_neg (by omega), if_pos (by omega), hx]
  have hp : ptsf (zss ++ [x]) = true := ptsf_yes (by omega) (by omega) (fun i hi => ⟨(hrow i (by omega)).2.vec (by rw [(hrow i (by omega)).1]; omega) (by rw [(hrow i (by omega)).1]; omega), by rw [(hrow i (by omega)).1, (hrow 0 (by omega)).1]⟩)
  obtain ⟨f1, f2, f3, f4, f5⟩ := farV_all hk
  have hno := nearOk_y hp f2 f3
  have hok : okAll (npQ (zss ++ [x])) (zss ++ [x]).length (zss ++ [x]).length = true := okAll_yes fun i j hij hj => by
    unfold npQ
    exact norm_small (hrow i (by omega)).2 (hrow j (by omega)).2 (by rw [(hrow i (by omega)).1]; omega) (by rw [(hrow i (by omega)).1]; omega) (by rw [(hrow i (by omega)).1, (hrow j (by omega)).1])
  refine ⟨_, by rw [nearR_yes hno, pairsR_yes hok], ?_, prAll_ev _ _ _, ?_, fun i hi z hz => (hrow i (by omega)).2.fin.2 z hz⟩
  · have h1 := prAll_le (npP (zss ++ [x]) (farV k)) (zss ++ [x]).length (zss ++ [x]).length
    rw [hl] at h1 ⊢
    have : 2 * (cc + 1) * (cc + 1) ≤ 2 * 7 * 7 := Nat.mul_le_mul (by omega) (by omega)
    omega
  · rw [hl]
    refine hits_all _ _ _ (by omega) (by omega) ?_ cc
    unfold npP
    rw [hr0, hrc, norm_same (h 0 (by omega)).2 (by rw [(h 0 (by omega)).1]; omega) (by rw [(h 0 (by omega)).1]; omega)]
    exact f4
set_option maxRecDepth 100000 in
set_option maxHeartbeats 8000000 in
theorem walk_FnBanded (a0 : Option Addr) (len0 cap0 : Nat) (z0 : List Int) (a1 : Option Addr) (len1 cap1 : Nat) (z1 : List Int) (w : World) (w0 : IsRow .u8 w a0 len0 cap0 z0) (w1 : IsRow .u8 w a1 len1 cap1 z1) :
    Calls Try.prog 5 #[.slice a0 len0 cap0, .slice a1 len1 cap1] w fun e w' => e = .returned (.bool true) ∧ Below w.heap.size w w' := by
  cases hlong : (decide (1048576 < (len0 : Int)) || decide (1048576 < (len1 : Int))) with
  | true =>
    have HL := Lib.hid hlong
    clear hlong w0 w1
    go_enter Try.func5, Try.ntmps5
    go_wp2_with fail
    refine (c_b10Long_of _ _ _ _ _ _ _ true HL.out).mono ?_; rintro e w' ⟨rfl, rfl⟩
    go_wp2
    go_ret
    exact ⟨rfl, Below.refl _ _⟩
  | false =>
  have HL := Lib.hid hlong
  simp only [Bool.or_eq_false_iff, decide_eq_false_iff_not] at hlong
  obtain ⟨bs0, hb0⟩ : ∃ bs, z0.take len0 = bs := ⟨_, rfl⟩
  obtain ⟨bs1, hb1⟩ : ∃ bs, z1.take len1 = bs := ⟨_, rfl⟩
  have C0 := Lib.hid (show Code w a0 len0 bs0 from hb0 ▸ Code.of (by omega) w0)
  have C1 := Lib.hid (show Code w a1 len1 bs1 from hb1 ▸ Code.of (by omega) w1)
  clear w0 w1 hb0 hb1 hlong
  go_enter Try.func5, Try.ntmps5
  go_wp2_with fail
  refine (c_b10Long_of _ _ _ _ _ _ _ false HL.out).mono ?_; rintro e w' ⟨rfl, rfl⟩
  go_wp2_with fail
  refine (c_b10At_k a1 len1 cap1 bs1 0 4 _ (by decide) (by decide) (by decide) C1.out).mono ?_; rintro e w' ⟨q0, hq0, rfl, rfl⟩
  have iq0 : (q0 : Int) ≤ 3 := by omega
  go_wp2_with fail
  obtain ⟨W, hW⟩ : ∃ W, 1 + q0 = W := ⟨_, rfl⟩
  have HWI := Lib.hid (show 1 + (q0 : Int) = (W : Int) by omega)
  have W1 : 1 ≤ W := by omega
  have W4 : W ≤ 4 := by omega
  have W4I : (W : Int) ≤ 4 := by omega
  rw [HWI.out]
  clear hW hq0 iq0
  refine (c_b10At_k a1 len1 cap1 bs1 1 4 _ (by decide) (by decide) (by decide) C1.out).mono ?_; rintro e w' ⟨q1, hq1, rfl, rfl⟩
  have iq1 : (q1 : Int) ≤ 3 := by omega
  go_upto_region 5 with fail
  obtain ⟨M, hM⟩ : ∃ M, 1 + q1 = M := ⟨_, rfl⟩
  obtain ⟨n, hn⟩ : ∃ n, W * M = n := ⟨_, rfl⟩
  have n1 : 1 ≤ n := by rw [← hn]; exact Nat.mul_pos (by omega) (by omega)
  have n16 : n ≤ 16 := by rw [← hn]; exact Nat.mul_le_mul (show W ≤ 4 from W4) (show M ≤ 4 by omega)
  have HNM := Lib.hid hn
  have HM1 := Lib.hid (show 1 ≤ M by omega)
  have HNI := Lib.hid (show wrap64 ((W : Int) * (1 + (q1 : Int))) = (n : Int) by
    have e : (W : Int) * (1 + (q1 : Int)) = (n : Int) := by
      rw [show 1 + (q1 : Int) = (M : Int) by omega, ← Int.natCast_mul, hn]
    rw [e]; unfold wrap64; omega)
  have n16I : (n : Int) ≤ 16 := by omega
  rw [HNI.out]
  clear hM hn hq1 iq1 HNI
  go_wp2_with fail
  refine (c_b10At_k a1 len1 cap1 bs1 2 5 _ (by decide) (by decide) (by decide) C1.out).mono ?_; rintro e w' ⟨q2, hq2, rfl, rfl⟩
  have iq2 : (q2 : Int) ≤ 4 := by omega
  go_upto_region 6 with fail
  obtain ⟨cc, hcc⟩ : ∃ cc, 2 + q2 = cc := ⟨_, rfl⟩
  have HCI := Lib.hid (show 2 + (q2 : Int) = (cc : Int) by omega)
  have c2 : 2 ≤ cc := by omega
  have c6 : cc ≤ 6 := by omega
  have c6I : (cc : Int) ≤ 6 := by omega
  rw [HCI.out]
  clear hcc hq2 iq2
  obtain ⟨i0, hi, hz0, hz1, hz2⟩ := info_parts info_boolH
  obtain ⟨j0, hj, hy0, hy1, hy2⟩ := info_parts info_f32
  obtain ⟨k0, hk, hx0, hx1, hx2⟩ := info_parts (show (Try.prog.info? 31).map (fun i => (i.zero, i.size, i.bytes)) = some (some (.slice none 0 0), 1, 24) by kernel_rfl)
  obtain ⟨l0, hl, hv0, hv1, hv2⟩ := info_parts (show (Try.prog.info? 33).map (fun i => (i.zero, i.size, i.bytes)) = some (some (.slice none 0 0), 1, 24) by kernel_rfl)
  have A1 := Lib.hid (show AppG bools 31 4 ((w.alloc (.cells #[] 31)).alloc (.cells #[] 33)) w.heap.size (.slice (some ⟨w.heap.size, 0, none⟩) 0 0) (fun _ => ⟨none, 0⟩) [] from
    ⟨owns_ext (World.ownsRow_made w #[] 0 (Nat.le_refl _) (Nat.zero_le _) rfl) (Ext.alloc _ _), fun i hi => absurd hi (Nat.not_lt_zero _)⟩)
  have A2 := Lib.hid (show AppG flos 33 37 ((w.alloc (.cells #[] 31)).alloc (.cells #[] 33)) w.heap.size (.slice (some ⟨(w.alloc (.cells #[] 31)).heap.size, 0, none⟩) 0 0) (fun _ => ⟨none, 0⟩) [] from
    ⟨World.ownsRow_made _ #[] 0 (by simp) (Nat.zero_le _) rfl, fun i hi => absurd hi (Nat.not_lt_zero _)⟩)
  have X0 := Lib.hid (show Ext w ((w.alloc (.cells #[] 31)).alloc (.cells #[] 33)) by (repeat (first | assumption | exact Ext.refl _ | (with_reducible refine Ext.stepS ?_ (by first | exact Nat.le_refl _ | (simp; done) | (simp; omega)) _) | (with_reducible refine Ext.stepN ?_ _) | (with_reducible refine Ext.stepD ?_) | (with_reducible refine Ext.stepA ?_ _))))
  go_wp2
  go_loopw [8, 9, 10] (fun v8 v9 i wr => ∃ (k : Nat) (kb kf : Nat → Hd) (zb : List (List Bool)) (zf : List (List Nat)), k ≤ cc ∧ i = .int .i64 (k : Int) ∧ zb.length = k ∧ zf.length = k ∧ (∀ i, i < k → (rowS zb i).length = n) ∧ (∀ i, i < k → (rowS zf i).length = n ∧ Small5 (rowS zf i)) ∧ AppG bools 31 4 wr w.heap.size v8 kb zb ∧ AppG flos 33 37 wr w.heap.size v9 kf zf ∧ Ext w wr ∧ w.heap.size + 2 ≤ wr.heap.size) (fun _ _ i _ => cc - (intOf i).toNat)
  case atStart => exact ⟨0, _, _, [], [], Nat.zero_le _, rfl, rfl, rfl, fun i hi => absurd hi (Nat.not_lt_zero _), fun i hi => absurd hi (Nat.not_lt_zero _), A1.out, by simpa using A2.out, X0.out, by simp⟩
  case round =>
    obtain ⟨k, kb, kf, zb, zf, hkc, rfl, hzb, hzf, hrb, hrf, ab, af, hext, hsz⟩ := hrel
    have AB := Lib.hid ab
    have AF := Lib.hid af
    have HX := Lib.hid hext
    have HRB := Lib.hid hrb
    have HRF := Lib.hid hrf
    have HZB := Lib.hid hzb
    have HZF := Lib.hid hzf
    have HSZ := Lib.hid hsz
    clear ab af hext hrb hrf hzb hzf hsz
    by_cases hlt : k < cc
    · have hltI : (k : Int) < (cc : Int) := by omega
      obtain ⟨p, hp⟩ : ∃ p, k * n = p := ⟨_, rfl⟩
      have hpI : (k : Int) * (n : Int) = (p : Int) := by rw [← hp, Int.natCast_mul]
      have p96 : p ≤ 96 := by rw [← hp]; exact Nat.mul_le_mul (show k ≤ 6 by omega) n16
      have p96I : (p : Int) ≤ 96 := by omega
      clear hp
      obtain ⟨wk, hwk⟩ : ∃ z, z = wr := ⟨_, rfl⟩
      subst hwk
      have OB0 := Lib.hid (owns_ext (World.ownsRow_made (base := wk.heap.size) (e := 4) (size := 1) wk #[] 0 (Nat.le_refl _) (Nat.zero_le _) rfl) (Ext.alloc (wk.alloc (.cells #[] 4)) (.cells #[] 37)))
      have OF0 := Lib.hid (World.ownsRow_made (base := wk.heap.size) (e := 37) (size := 1) (wk.alloc (.cells #[] 4)) #[] 0 (by simp) (Nat.zero_le _) rfl)
      have XK0 := Lib.hid (show Ext wk ((wk.alloc (.cells #[] 4)).alloc (.cells #[] 37)) by (repeat (first | assumption | exact Ext.refl _ | (with_reducible refine Ext.stepS ?_ (by first | exact Nat.le_refl _ | (simp; done) | (simp; omega)) _) | (with_reducible refine Ext.stepN ?_ _) | (with_reducible refine Ext.stepD ?_) | (with_reducible refine Ext.stepA ?_ _))))
      go_wp2
      go_loopw [11, 12, 13] (fun v11 v12 i wr => ∃ (j : Nat) (bs : List Bool) (fs : List Nat), j ≤ n ∧ i = .int .i64 (j : Int) ∧ bs.length = j ∧ fs.length = j ∧ Small5 fs ∧ wr.ownsRow wk.heap.size 4 1 v11 j (bools bs) ∧ wr.ownsRow wk.heap.size 37 1 v12 j (flos fs) ∧ Ext wk wr ∧ wk.heap.size + 2 ≤ wr.heap.size) (fun _ _ i _ => n - (intOf i).toNat)
      case atStart => exact ⟨0, [], [], Nat.zero_le _, rfl, rfl, rfl, fun x hx => (by cases hx), OB0.out, by simpa [flos] using OF0.out, XK0.out, by simp⟩
      case round =>
        obtain ⟨j, bs, fs, hjn, rfl, hbl, hfl, hsm, ob, oF, hxk, hsk⟩ := hrel
        have OB := Lib.hid ob
        have OF := Lib.hid oF
        have XK := Lib.hid hxk
        have SM := Lib.hid hsm
        have BL := Lib.hid hbl
        have FL := Lib.hid hfl
        have SK := Lib.hid hsk
        clear ob oF hxk hsm hbl hfl hsk
        by_cases hlt2 : j < n
        · have hlt2I : (j : Int) < (n : Int) := by omega
          have e9 : (p : Int) + (j : Int) = ((p + j : Nat) : Int) := by omega
          have E9 := Lib.hid e9
          clear e9
          go_wp2_with fail
          rw [E9.out]
          refine (c_b10At_k a0 len0 cap0 bs0 (p + j) 2 _ (by decide) (by decide) (by omega) ((C0.out.on HX.out).on XK.out)).mono ?_; rintro e w' ⟨z, hz, rfl, rfl⟩
          go_wp2_with (at_builtin; refine wpList_append_own _ rfl _ _ 31 rfl wk.heap.size 4 i0 (.bool false) 1 1 Try.underlying31 hi hz0 hz1 hz2 rfl (by decide) _ _ _ rfl (OB.out.alloc _) ⟨_, 0, none⟩ 1 1 [_] rfl rfl (one_cell_at _ _ _) (by intro u hu; simp at hu; subst hu; rfl) (by unfold maxLen; omega) (by omega) (by have := SK.out; first | (simp; omega) | omega) ?_; intro v' w1 hown' hgrow _; have HO' := Lib.hid hown'; have XK1 := Lib.hid (app_step XK.out OB.out hgrow); have SK1 := Lib.hid (show wk.heap.size + 2 ≤ w1.heap.size from Nat.le_trans SK.out (by have := hgrow.size; simp at this; omega)); have OF1 := Lib.hid (ownsRow_other (by decide) OF.out OB.out hgrow); clear hown' hgrow)
          rw [E9.out]
          refine (c_b10At_k a0 len0 cap0 bs0 (p + j) 5 _ (by decide) (by decide) (by omega) ((C0.out.on HX.out).on XK1.out)).mono ?_; rintro e w' ⟨y, hy, rfl, rfl⟩
          have HY := Lib.hid hy
          have iy : (y : Int) ≤ 4 := by omega
          clear hy hz
          go_wp2_with (at_builtin; refine wpList_append_own _ rfl _ _ 33 rfl wk.heap.size 37 j0 (.float .f32 0) 1 4 Try.underlying33 hj hy0 hy1 hy2 rfl (by decide) _ _ _ rfl (OF1.out.alloc _) ⟨_, 0, none⟩ 1 1 [.float .f32 (dI (y : Int))] rfl rfl (one_cell_at _ _ _) (by intro u hu; simp at hu; subst hu; rfl) (by unfold maxLen; omega) (by omega) (by have := SK1.out; first | (simp; omega) | omega) ?_; intro v2' w2 hown2 hgrow2 _; have HO2 := Lib.hid hown2; have XK2 := Lib.hid (app_step XK1.out OF1.out hgrow2); have SK2 := Lib.hid (show wk.heap.size + 2 ≤ w2.heap.size from Nat.le_trans SK1.out (by have := hgrow2.size; simp at this; omega)); have OB2 := Lib.hid (ownsRow_other (by decide) HO'.out OF1.out hgrow2); clear hown2 hgrow2)
          go_roundw
          case rel => exact ⟨j + 1, bs ++ [(z : Int) == 0], fs ++ [dI (y : Int)], by omega, by go_num, by rw [List.length_append, List.length_singleton, BL.out], by rw [List.length_append, List.length_singleton, FL.out], fun x hx => (List.mem_append.1 hx).elim (SM.out x) (fun h => ⟨y, HY.out, by simpa using h⟩), by rw [bools_app]; exact OB2.out, by rw [flos_app]; exact HO2.out, XK2.out, SK2.out⟩
          case measure => simp [intOf]; omega
        · obtain rfl : n = j := by omega
          obtain ⟨a11, c11, rfl, ho11⟩ := Own.of_row (e := 0) OB.out
          obtain ⟨a12, c12, rfl, ho12⟩ := Own.of_row (e := 0) OF.out
          have O11 := Lib.hid ho11
          have O12 := Lib.hid ho12
          have ABr := Lib.hid (AB.out.on XK.out)
          have AFr := Lib.hid (AF.out.on XK.out)
          have XW := Lib.hid (HX.out.trans XK.out)
          have SW := Lib.hid (show w.heap.size + 2 ≤ wr.heap.size from Nat.le_trans HSZ.out XK.out.size)
          have zb6 : zb.length ≤ 6 := by rw [HZB.out]; omega
          have zf6 : zf.length ≤ 6 := by rw [HZF.out]; omega
          clear ho11 ho12 hlt2
          go_wp2_with (first | (at_builtin; refine wpList_append_own _ rfl _ _ 43 rfl w.heap.size 31 k0 (.slice none 0 0) 1 24 Try.underlying43 hk hx0 hx1 hx2 rfl (by decide) _ _ _ rfl (ABr.out.o.alloc _) ⟨_, 0, none⟩ 1 1 [.slice a11 n c11] rfl rfl (one_cell_at _ _ _) (by intro u hu; simp at hu; subst hu; rfl) (by unfold maxLen; omega) (by omega) (by have := SW.out; first | (simp; omega) | omega) ?_; intro v' w1 hown' hgrow _; have AB1 := Lib.hid (AppG.app (by decide) ABr.out BL.out O11.out hown' hgrow); have AF1 := Lib.hid (AppG.other (by decide) (by decide) AFr.out ABr.out.o hgrow); have O12b := Lib.hid (Own_other (by decide) O12.out ABr.out.o hgrow); have XW1 := Lib.hid (app_step XW.out ABr.out.o hgrow); have SW1 := Lib.hid (show w.heap.size + 2 ≤ w1.heap.size from Nat.le_trans SW.out (by have := hgrow.size; simp at this; omega)); clear hown' hgrow) | (at_builtin; refine wpList_append_own _ rfl _ _ 44 rfl w.heap.size 33 l0 (.slice none 0 0) 1 24 Try.underlying44 hl hv0 hv1 hv2 rfl (by decide) _ _ _ rfl (AF1.out.o.alloc _) ⟨_, 0, none⟩ 1 1 [.slice a12 n c12] rfl rfl (one_cell_at _ _ _) (by intro u hu; simp at hu; subst hu; rfl) (by unfold maxLen; omega) (by omega) (by have := SW1.out; first | (simp; omega) | omega) ?_; intro v2' w2 hown2 hgrow2 _; have AF2 := Lib.hid (AppG.app (by decide) AF1.out FL.out O12b.out hown2 hgrow2); have AB2 := Lib.hid (AppG.other (by decide) (by decide) AB1.out AF1.out.o hgrow2); have XW2 := Lib.hid (app_step XW1.out AF1.out.o hgrow2); have SW2 := Lib.hid (show w.heap.size + 2 ≤ w2.heap.size from Nat.le_trans SW1.out (by have := hgrow2.size; simp at this; omega)); clear hown2 hgrow2))
          go_roundw
          case rel => exact ⟨k + 1, _, _, zb ++ [bs], zf ++ [fs], by omega, by go_num, by rw [List.length_append, List.length_singleton, HZB.out], by rw [List.length_append, List.length_singleton, HZF.out], fun i hi => by
            rw [rowS_app]
            by_cases e : i < zb.length
            · rw [if_pos e]; exact HRB.out i (by rw [← HZB.out]; exact e)
            · rw [if_neg e, if_pos (by have := HZB.out; omega), BL.out], fun i hi => by
            rw [rowS_app]
            by_cases e : i < zf.length
            · rw [if_pos e]; exact HRF.out i (by rw [← HZF.out]; exact e)
            · rw [if_neg e, if_pos (by have := HZF.out; omega), FL.out]; exact ⟨rfl, SM.out⟩, AB2.out, AF2.out, XW2.out, SW2.out⟩
          case measure => simp [intOf]; omega
    · obtain rfl : cc = k := by omega
      obtain ⟨a8, c8, rfl, rd8, ow8, cp8⟩ := AB.out.reads
      obtain ⟨a9, c9, rfl, rd9, ow9, cp9⟩ := AF.out.reads
      obtain ⟨b8, o8, rfl, hc8⟩ : ∃ b off, a8 = some ⟨b, off, none⟩ ∧ wr.cell? ⟨b, off + 0, none⟩ = some (.slice (kb 0).a n (kb 0).c) := by
        rcases rd8.cells with h0 | ⟨b, off, e, hcl⟩
        · have := HZB.out; omega
        · exact ⟨b, off, e, by rw [← HRB.out 0 (by omega)]; exact hcl 0 (by have := HZB.out; omega)⟩
      obtain ⟨b9, o9, rfl, hc9⟩ : ∃ b off, a9 = some ⟨b, off, none⟩ ∧ wr.cell? ⟨b, off + 0, none⟩ = some (.slice (kf 0).a n (kf 0).c) := by
        rcases rd9.cells with h0 | ⟨b, off, e, hcl⟩
        · have := HZF.out; omega
        · exact ⟨b, off, e, by rw [← (HRF.out 0 (by omega)).1]; exact hcl 0 (by have := HZF.out; omega)⟩
      obtain ⟨l8, g8, hr8⟩ := AB.out.r 0 (by have := HZB.out; omega)
      obtain ⟨l9, g9, hr9⟩ := AF.out.r 0 (by have := HZF.out; omega)
      rw [HRB.out 0 (by omega)] at hr8
      rw [(HRF.out 0 (by omega)).1] at hr9
      have R8 := Lib.hid hr8
      have R9 := Lib.hid hr9
      have HC9 := Lib.hid hc9
      obtain ⟨hd8, hh8⟩ : ∃ h, kb 0 = h := ⟨_, rfl⟩
      obtain ⟨hd9, hh9⟩ : ∃ h, kf 0 = h := ⟨_, rfl⟩
      rw [hh8] at hc8 R8
      rw [hh9] at HC9 R9
      have HH9 := Lib.hid hh9
      obtain ⟨ad8, cd8⟩ := hd8
      obtain ⟨ad9, cd9⟩ := hd9
      dsimp only at hc8 R8 HC9 R9
      have BL8 := Lib.hid (HRB.out 0 (by omega))
      have FL9 := Lib.hid (HRF.out 0 (by omega)).1
      have zb6 : zb.length ≤ 6 := by rw [HZB.out]; omega
      have zf6 : zf.length ≤ 6 := by rw [HZF.out]; omega
      have zb0 : 0 < zb.length := by rw [HZB.out]; omega
      have zf0 : 0 < zf.length := by rw [HZF.out]; omega
      rw [Nat.add_zero] at hc8 HC9
      clear rd8 ow8 cp8 rd9 ow9 cp9 hr8 hr9 hc9 hh8 hh9 hlt
      have hccI : ¬ (cc : Int) < (cc : Int) := by omega
      go_wp2_with (first | (at_builtin; refine wpList_append_own _ rfl _ _ 43 rfl w.heap.size 31 k0 (.slice none 0 0) 1 24 Try.underlying43 hk hx0 hx1 hx2 rfl (by decide) _ _ _ rfl (AB.out.o.alloc _) ⟨_, 0, none⟩ 1 1 [.slice ad8 n cd8] rfl rfl (one_cell_at _ _ _) (by intro u hu; simp at hu; subst hu; rfl) (by unfold maxLen; omega) (by omega) (by have := HSZ.out; first | (simp; omega) | omega) ?_; intro v' w1 hown' hgrow _; have AB1 := Lib.hid (AppG.app (by decide) AB.out BL8.out R8.out hown' hgrow); have AF1 := Lib.hid (AppG.other (by decide) (by decide) AF.out AB.out.o hgrow); have R9b := Lib.hid (Own_other (by decide) R9.out AB.out.o hgrow); have XW1 := Lib.hid (app_step HX.out AB.out.o hgrow); have SW1 := Lib.hid (show w.heap.size + 2 ≤ w1.heap.size from Nat.le_trans HSZ.out (by have := hgrow.size; simp at this; omega)); have hc9 : w1.cell? ⟨b9, o9, none⟩ = some (.slice ad9 n cd9) := AF1.out.head zf0 HH9.out FL9.out; clear hown' hgrow hc8) | (at_builtin; refine wpList_append_own _ rfl _ _ 44 rfl w.heap.size 33 l0 (.slice none 0 0) 1 24 Try.underlying44 hl hv0 hv1 hv2 rfl (by decide) _ _ _ rfl (AF1.out.o.alloc _) ⟨_, 0, none⟩ 1 1 [.slice ad9 n cd9] rfl rfl (one_cell_at _ _ _) (by intro u hu; simp at hu; subst hu; rfl) (by unfold maxLen; omega) (by omega) (by have := SW1.out; first | (simp; omega) | omega) ?_; intro v2' w2 hown2 hgrow2 _; have AF2 := Lib.hid (AppG.app (by decide) AF1.out FL9.out R9b.out hown2 hgrow2); have AB2 := Lib.hid (AppG.other (by decide) (by decide) AB1.out AF1.out.o hgrow2); have XW2 := Lib.hid (app_step XW1.out AF1.out.o hgrow2); clear hown2 hgrow2 hc9))
      obtain ⟨a8', c8', rfl, rd8, _, cp8⟩ := AB2.out.reads
      obtain ⟨a9', c9', rfl, rd9, _, cp9⟩ := AF2.out.reads
      have T8 := Lib.hid (tot_more HZB.out c2 c6 n16 HRB.out rfl)
      have T9 := Lib.hid (tot_more HZF.out c2 c6 n16 (fun i hi => (HRF.out i hi).1) rfl)
      obtain ⟨P, hP, hPl, hPe, hPh⟩ := band_all HZB.out c2 c6 W1 HM1.out HNM.out n1 n16 HRB.out rfl
      have HNR := Lib.hid (fun (k : Nat) (h : k < 17) => near_all HZF.out c2 c6 n1 n16 h HRF.out rfl)
      obtain ⟨ZB, hZB⟩ : ∃ z, zb ++ [rowS zb 0] = z := ⟨_, rfl⟩
      obtain ⟨ZF, hZF⟩ : ∃ z, zf ++ [rowS zf 0] = z := ⟨_, rfl⟩
      rw [hZB] at rd8 cp8 T8 hP ⊢
      rw [hZF] at rd9 cp9 T9 HNR ⊢
      have RD8 := Lib.hid rd8
      have RD9 := Lib.hid rd9
      have CP8 := Lib.hid cp8
      have HP := Lib.hid hP
      have HPE := Lib.hid hPe
      have HPH := Lib.hid hPh
      clear rd8 rd9 cp8 cp9 hP hPe hPh hZB hZF AB1 AF1 R9b XW1 SW1 AB2 AF2 AB AF R8 R9 HH9 HC9 hccI
      refine (c_impl_BandPairs a8' ZB.length c8' _ ZB (W : Int) _ HP.out T8.out RD8.out CP8.out).mono ?_; rintro e u1 ⟨aP, cP, rfl, oP, xP⟩
      have OP := Lib.hid oP
      have XP := Lib.hid xP
      clear oP xP
      go_wp2_with fail
      refine (c_spec_BandPairs a8' ZB.length c8' _ ZB (W : Int) _ HP.out T8.out (RD8.out.on XP.out) CP8.out).mono ?_; rintro e u2 ⟨aQ, cQ, rfl, oQ, xQ⟩
      have OQ := Lib.hid oQ
      have OP2 := Lib.hid (OP.out.on xQ)
      have XQ := Lib.hid (XP.out.trans xQ)
      clear oQ xQ
      go_wp2_with fail
      refine (c_b10At_k a1 len1 cap1 bs1 3 17 _ (by decide) (by decide) (by decide) ((C1.out.on XW2.out).on XQ.out)).mono ?_; rintro e w' ⟨k, hkk, rfl, rfl⟩
      obtain ⟨F, hF, hFl, hFe, hFh, hFb⟩ := HNR.out k hkk
      have HF := Lib.hid hF
      have HFE := Lib.hid hFe
      have HFH := Lib.hid hFh
      have HFB := Lib.hid hFb
      have HFV := Lib.hid (farV_all hkk)
      have ik : (k : Int) ≤ 16 := by omega
      have hq : ∀ wx : World, (binOp .quo 37 (.float .f32 (floatOfInt .f32 (k : Int))) (.float .f32 1082130432)).run Try.prog wx = .ok (.float .f32 (farV k)) wx := fun wx => by
        rw [run_fl_quo, flR_q HFV.out.1, flD_q HFV.out.1, World.drewN_zero]
      clear hF hFe hFh hFb hkk HNR
      go_wp2_with fail
      refine (c_impl_NearPairs a9' ZF.length c9' _ ZF (farV k) _ HF.out T9.out (RD9.out.on XQ.out) HFB.out HFV.out.2.2.2.2).mono ?_; rintro e u3 ⟨aR, cR, rfl, oR, xR⟩
      have OR := Lib.hid oR
      have OP3 := Lib.hid (OP2.out.on xR)
      have OQ3 := Lib.hid (OQ.out.on xR)
      have XR := Lib.hid (XQ.out.trans xR)
      clear oR xR
      go_wp2_with fail
      refine (c_spec_NearPairs a9' ZF.length c9' _ ZF (farV k) _ HF.out T9.out (RD9.out.on XR.out) HFB.out HFV.out.2.2.2.2).mono ?_; rintro e u4 ⟨aS, cS, rfl, oS, xS⟩
      have OS4 := Lib.hid oS
      have OR4 := Lib.hid (OR.out.on xS)
      have OP4 := Lib.hid (OP3.out.on xS)
      have OQ4 := Lib.hid (OQ3.out.on xS)
      have XS := Lib.hid (XR.out.trans xS)
      clear oS xS hq ik
      go_wp2_with fail
      refine (c_b10Ints_same aP aQ P.length cP cQ P _ (by omega) OP4.out.reads OQ4.out.reads).mono ?_; rintro e w' ⟨rfl, q5, rfl⟩
      go_wp2_with fail
      refine (c_b10Ints_same aR aS F.length cR cS F _ (by omega) (OR4.out.on (Ext.drewN _ _)).reads (OS4.out.on (Ext.drewN _ _)).reads).mono ?_; rintro e w' ⟨rfl, q6, rfl⟩
      obtain ⟨u, hu⟩ : ∃ u, (u4.drewN q5).drewN q6 = u := ⟨_, rfl⟩
      have XU := Lib.hid (show Ext w u by rw [← hu]; exact (XW2.out.trans XS.out).trans ((Ext.drewN _ _).trans (Ext.drewN _ _)))
      have RP := Lib.hid (show Reads u aP P.length (ints P) by rw [← hu]; exact OP4.out.reads)
      have RF := Lib.hid (show Reads u aR F.length (ints F) by rw [← hu]; exact OR4.out.reads)
      rw [hu]
      clear hu
      go_wp2
      go_loopw [23, 24] (fun s i wr => ∃ K : Nat, K ≤ P.length ∧ (∃ j, K = 2 * j) ∧ i = .int .i64 (K : Int) ∧ s = .int .i64 ((0 + hits (cc : Int) (P.take K) : Nat) : Int) ∧ wr = u) (fun _ i _ => P.length - (intOf i).toNat)
      case atStart => exact ⟨0, Nat.zero_le _, ⟨0, rfl⟩, rfl, rfl, rfl⟩
      case round =>
        obtain ⟨K, hK, hev, rfl, rfl, rfl⟩ := hrel
        have HEV := Lib.hid hev
        clear hev
        by_cases hlt : K + 1 < P.length
        · have hltI : (K : Int) + 1 < (P.length : Int) := by omega
          have kI : (K : Int) ≤ 1024 := by omega
          rcases RP.out.int.2 with h0 | ⟨b, off, rfl, hc⟩
          · omega
          have cx := hc K (by omega)
          have cy := hc (K + 1) hlt
          have hsn : hits (cc : Int) (P.take (K + 2)) = hits (cc : Int) (P.take K) + if getI P K = 0 ∧ getI P (K + 1) = (cc : Int) then 1 else 0 := by
            obtain ⟨j, rfl⟩ := HEV.out
            exact hits_take (cc : Int) P hlt
          have HEV2 := Lib.hid (show ∃ j, K + 2 = 2 * j from by obtain ⟨j, rfl⟩ := HEV.out; exact ⟨j + 1, by omega⟩)
          obtain ⟨x, hx⟩ : ∃ x, getI P K = x := ⟨_, rfl⟩
          obtain ⟨y, hy⟩ : ∃ y, getI P (K + 1) = y := ⟨_, rfl⟩
          obtain ⟨c, hcn⟩ : ∃ c, hits (cc : Int) (P.take K) = c := ⟨_, rfl⟩
          have c1024 : c ≤ 1024 := by
            rw [← hcn]; have := hits_le (cc : Int) _ (P.take K) (Nat.le_refl _); rw [List.length_take] at this; omega
          rw [show P[K]?.getD 0 = x from hx] at cx
          rw [show P[K + 1]?.getD 0 = y from hy] at cy
          rw [hx, hy, hcn] at hsn
          have cI : ((0 + c : Nat) : Int) ≤ 1025 := by omega
          obtain ⟨d, hd⟩ : ∃ d, 0 + c = d := ⟨_, rfl⟩
          have HD := Lib.hid hd
          rw [hcn]
          rw [hd] at cI ⊢
          have HSN := Lib.hid hsn
          have lt2 : ((K : Int) + 1).toNat = K + 1 := by omega
          clear hc hx hy hcn hsn hd c1024
          by_cases hx0 : x = 0
          · subst hx0
            by_cases hyc : y = (cc : Int)
            · subst hyc
              have HS2 := Lib.hid (show 0 + hits (cc : Int) (P.take (K + 2)) = d + 1 by rw [HSN.out, if_pos ⟨rfl, rfl⟩, ← HD.out]; omega)
              go_wp2
              go_roundw
              case rel => exact ⟨K + 2, by omega, HEV2.out, by go_num, by rw [HS2.out]; go_num, by first | rfl | trivial⟩
              case measure => simp [intOf]; omega
            · have HS2 := Lib.hid (show 0 + hits (cc : Int) (P.take (K + 2)) = d by rw [HSN.out, if_neg (fun h => hyc h.2), ← HD.out]; omega)
              have hyb : (y == (cc : Int)) = false := beq_eq_false_iff_ne.2 hyc
              go_wp2
              go_roundw
              case rel => exact ⟨K + 2, by omega, HEV2.out, by go_num, by first | (rw [HS2.out]; done) | (rw [HS2.out]; rfl), by first | rfl | trivial⟩
              case measure => simp [intOf]; omega
          · have HS2 := Lib.hid (show 0 + hits (cc : Int) (P.take (K + 2)) = d by rw [HSN.out, if_neg (fun h => hx0 h.1), ← HD.out]; omega)
            have hxb : (x == 0) = false := beq_eq_false_iff_ne.2 hx0
            go_wp2
            go_roundw
            case rel => exact ⟨K + 2, by omega, HEV2.out, by go_num, by first | (rw [HS2.out]; done) | (rw [HS2.out]; rfl), by first | rfl | trivial⟩
            case measure => simp [intOf]; omega
        · have HTK := Lib.hid (show 0 + hits (cc : Int) (P.take K) = 0 + 1 by
            obtain ⟨j, rfl⟩ := HEV.out
            obtain ⟨m, hm⟩ := HPE.out
            rw [List.take_of_length_le (by omega), HPH.out])
          have hltI : ¬ (K : Int) + 1 < (P.length : Int) := by omega
          have kI : (K : Int) ≤ 1024 := by omega
          rw [HTK.out]
          obtain ⟨ux, hux⟩ : ∃ z, z = wr := ⟨_, rfl⟩
          subst hux
          clear HTK HEV hlt hK
          go_wp2
          go_loopw [23, 25] (fun s i wr => ∃ K : Nat, K ≤ F.length ∧ (∃ j, K = 2 * j) ∧ i = .int .i64 (K : Int) ∧ s = .int .i64 ((1 + hits (cc : Int) (F.take K) : Nat) : Int) ∧ wr = ux) (fun _ i _ => F.length - (intOf i).toNat)
          case atStart => exact ⟨0, Nat.zero_le _, ⟨0, rfl⟩, rfl, rfl, rfl⟩
          case round =>
            obtain ⟨K, hK, hev, rfl, rfl, rfl⟩ := hrel
            have HEV := Lib.hid hev
            clear hev
            by_cases hlt : K + 1 < F.length
            · have hltI : (K : Int) + 1 < (F.length : Int) := by omega
              have kI : (K : Int) ≤ 1024 := by omega
              rcases RF.out.int.2 with h0 | ⟨b, off, rfl, hc⟩
              · omega
              have cx := hc K (by omega)
              have cy := hc (K + 1) hlt
              have hsn : hits (cc : Int) (F.take (K + 2)) = hits (cc : Int) (F.take K) + if getI F K = 0 ∧ getI F (K + 1) = (cc : Int) then 1 else 0 := by
                obtain ⟨j, rfl⟩ := HEV.out
                exact hits_take (cc : Int) F hlt
              have HEV2 := Lib.hid (show ∃ j, K + 2 = 2 * j from by obtain ⟨j, rfl⟩ := HEV.out; exact ⟨j + 1, by omega⟩)
              obtain ⟨x, hx⟩ : ∃ x, getI F K = x := ⟨_, rfl⟩
              obtain ⟨y, hy⟩ : ∃ y, getI F (K + 1) = y := ⟨_, rfl⟩
              obtain ⟨c, hcn⟩ : ∃ c, hits (cc : Int) (F.take K) = c := ⟨_, rfl⟩
              have c1024 : c ≤ 1024 := by
                rw [← hcn]; have := hits_le (cc : Int) _ (F.take K) (Nat.le_refl _); rw [List.length_take] at this; omega
              rw [show F[K]?.getD 0 = x from hx] at cx
              rw [show F[K + 1]?.getD 0 = y from hy] at cy
              rw [hx, hy, hcn] at hsn
              have cI : ((1 + c : Nat) : Int) ≤ 1025 := by omega
              obtain ⟨d, hd⟩ : ∃ d, 1 + c = d := ⟨_, rfl⟩
              have HD := Lib.hid hd
              rw [hcn]
              rw [hd] at cI ⊢
              have HSN := Lib.hid hsn
              have lt2 : ((K : Int) + 1).toNat = K + 1 := by omega
              clear hc hx hy hcn hsn hd c1024
              by_cases hx0 : x = 0
              · subst hx0
                by_cases hyc : y = (cc : Int)
                · subst hyc
                  have HS2 := Lib.hid (show 1 + hits (cc : Int) (F.take (K + 2)) = d + 1 by rw [HSN.out, if_pos ⟨rfl, rfl⟩, ← HD.out]; omega)
                  go_wp2
                  go_roundw
                  case rel => exact ⟨K + 2, by omega, HEV2.out, by go_num, by rw [HS2.out]; go_num, by first | rfl | trivial⟩
                  case measure => simp [intOf]; omega
                · have HS2 := Lib.hid (show 1 + hits (cc : Int) (F.take (K + 2)) = d by rw [HSN.out, if_neg (fun h => hyc h.2), ← HD.out]; omega)
                  have hyb : (y == (cc : Int)) = false := beq_eq_false_iff_ne.2 hyc
                  go_wp2
                  go_roundw
                  case rel => exact ⟨K + 2, by omega, HEV2.out, by go_num, by first | (rw [HS2.out]; done) | (rw [HS2.out]; rfl), by first | rfl | trivial⟩
                  case measure => simp [intOf]; omega
              · have HS2 := Lib.hid (show 1 + hits (cc : Int) (F.take (K + 2)) = d by rw [HSN.out, if_neg (fun h => hx0 h.1), ← HD.out]; omega)
                have hxb : (x == 0) = false := beq_eq_false_iff_ne.2 hx0
                go_wp2
                go_roundw
                case rel => exact ⟨K + 2, by omega, HEV2.out, by go_num, by first | (rw [HS2.out]; done) | (rw [HS2.out]; rfl), by first | rfl | trivial⟩
                case measure => simp [intOf]; omega
            · have HTK := Lib.hid (show 1 + hits (cc : Int) (F.take K) = 1 + 1 by
                obtain ⟨j, rfl⟩ := HEV.out
                obtain ⟨m, hm⟩ := HFE.out
                rw [List.take_of_length_le (by omega), HFH.out])
              have hltI : ¬ (K : Int) + 1 < (F.length : Int) := by omega
              have kI : (K : Int) ≤ 1024 := by omega
              rw [HTK.out]
              obtain ⟨ux, hux⟩ : ∃ z, z = wr := ⟨_, rfl⟩
              subst hux
              clear HTK HEV hlt hK
              go_wp2
              go_ret
              exact ⟨by first | rfl | (simp; done) | decide, XU.out⟩
end Go.Proofs.Ytibldgcfplpdkaa
