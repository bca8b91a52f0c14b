/- Lists of bits compared, by blocks (without sieves). -/
import Derived.Test.YtibldgcfplpdkaaPnb
import Derived.Test.YtibldgcfplpdkaaArq
import Derived.Deep.MidRow
import Derived.Deep.QuietTactic
namespace Go.Proofs.Ytibldgcfplpdkaa
open Go.ChangeShapes Go.WideShapes Go.ChangeAt Go.RowKit
set_option linter.unusedVariables false
theorem quiet_load {P : Program} {ops : Array Oper} {C : World → Prop} {Q : Act → Prop} {a : Act} {rest : List Oper} (o : Oper) (ty : TypeId) (x : Operand) (hgd : o.guard = none) (ho : o.op = .load ty x) (p : Value) (hx : a.eval x = p) (v : Value)
    (hld : ∀ w, C w → (Instr.loadAt ty p).run P w = .ok v w) (h : wpQuiet P ops C Q rest (a.put o.dst v)) : wpQuiet P ops C Q (o :: rest) a := by
  have hw : Region.wanted o (yielded ops a.tmps) = true := by simp [Region.wanted, hgd]
  show if _ then _ else _
  rw [if_pos hw]
  refine ⟨v, fun w hC => ?_, h⟩
  have e : (execOp a.eval o).run P w = .ok (.value v) w := by
    unfold execOp
    simp only [ho, hx]
    simp [hld w hC]
  unfold Oper.quietAt
  rw [e]
  exact ⟨rfl, rfl⟩
def sameLB (xs ys : List Bool) : Bool := decide (xs = ys)
theorem sameLB_len {xs ys : List Bool} (h : xs.length ≠ ys.length) : sameLB xs ys = false := decide_eq_false fun e => h (by rw [e])
theorem sameLB_at {xs ys : List Bool} {k : Nat} (h : xs[k]?.getD false ≠ ys[k]?.getD false) : sameLB xs ys = false := decide_eq_false fun e => h (by rw [e])
theorem sameLB_all {xs ys : List Bool} (h : xs.length = ys.length) (ha : ∀ i, i < xs.length → xs[i]?.getD false = ys[i]?.getD false) : sameLB xs ys = true := by
  refine decide_eq_true (List.ext_getElem? fun i => ?_)
  by_cases hi : i < xs.length
  · have h1 := ha i hi
    rw [List.getElem?_eq_getElem hi, List.getElem?_eq_getElem (by omega)] at h1 ⊢
    simpa using h1
  · rw [List.getElem?_eq_none (by omega), List.getElem?_eq_none (by omega)]
def sameC (W D S : Int) (zs : List Bool) (W' D' S' : Int) (ys : List Bool) : Bool := (W == W') && (D == D') && (S == S') && sameLB zs ys
theorem sameLB_drop {xs ys : List Bool} {k : Nat} (h : xs.take k = ys.take k) : sameLB xs ys = sameLB (xs.drop k) (ys.drop k) := by
  unfold sameLB
  have : (xs = ys) ↔ (xs.drop k = ys.drop k) := by
    constructor
    · intro e; rw [e]
    · intro e; rw [← List.take_append_drop k xs, ← List.take_append_drop k ys, h, e]
  simp only [this]
theorem c_EqualB (a b : Option Addr) (n m c c' : Nat) (xs ys : List Bool) (w : World) {r : Bool} (hr : sameLB xs ys = r) (hn : n ≤ maxLen) (hm : m ≤ maxLen) (h : Reads w a n (bools xs)) (h' : Reads w b m (bools ys)) :
    Calls Try.prog 238 #[.slice a n c, .slice b m c'] w fun e w' => e = .returned (.bool r) ∧ ∃ q, w' = w.drewN q := by
  unfold maxLen at hn hm
  obtain ⟨hx, h1⟩ := h.bool
  obtain ⟨hy, h2⟩ := h'.bool
  by_cases hl : n = m
  · subst hl
    have H1 := Lib.hid h1
    have H2 := Lib.hid h2
    have HX := Lib.hid hx
    have HY := Lib.hid hy
    have HR := Lib.hid hr
    have g1 : ((n : Int) == (n : Int)) = true := by simp
    have g2 : ((n : Int) != (n : Int)) = false := by simp
    clear h h' h1 h2 hx hy hr
    go_enter Try.func238, Try.ntmps238
    go_wp2
    go_loopw [13] (fun i wr => ∃ k q : Nat, k ≤ n ∧ i = .int .i64 k ∧ wr = w.drewN q ∧ ∀ j, j < k → xs[j]?.getD false = ys[j]?.getD false) (fun i _ => n - (intOf i).toNat)
    case atStart => exact ⟨0, 0, Nat.zero_le _, rfl, rfl, fun j hj => absurd hj (Nat.not_lt_zero _)⟩
    case round =>
      obtain ⟨k, q, hk, rfl, hw, hall⟩ := hrel
      have HW := Lib.hid hw
      have HA := Lib.hid hall
      by_cases hlt : k < n
      · rcases H1.out with h0 | ⟨b1, o1, rfl, hc1⟩
        · omega
        rcases H2.out with h0 | ⟨b2, o2, rfl, hc2⟩
        · omega
        have k1 : wr.cell? ⟨b1, o1 + k, none⟩ = some (.bool (xs[k]?.getD false)) := by rw [hw]; exact hc1 k hlt
        have k2 : wr.cell? ⟨b2, o2 + k, none⟩ = some (.bool (ys[k]?.getD false)) := by rw [hw]; exact hc2 k hlt
        obtain ⟨x, hxx⟩ : ∃ x, xs[k]?.getD false = x := ⟨_, rfl⟩
        obtain ⟨y, hyy⟩ : ∃ y, ys[k]?.getD false = y := ⟨_, rfl⟩
        rw [hxx] at k1
        rw [hyy] at k2
        have i1 : (k : Int) < (n : Int) := by omega
        by_cases hxy : x = y
        · subst hxy
          have HN := Lib.hid (show ∀ j, j < k + 1 → xs[j]?.getD false = ys[j]?.getD false from fun j hj => by
            by_cases e : j = k
            · subst e; rw [hxx, hyy]
            · exact HA.out j (by omega))
          have e1 : (x == x) = true := by simp
          have e2 : (x != x) = false := by simp
          clear hxx hyy hall hw hc1 hc2
          go_wp2
          go_quiet (fail)
          go_wp2
          go_roundw
          case rel => exact ⟨k + 1, _, by omega, by go_num, by rw [HW.out, World.drewN_drewN], HN.out⟩
          case measure => simp [intOf]; omega
        · have HB := Lib.hid (show r = false by rw [← HR.out]; exact sameLB_at (k := k) (by rw [hxx, hyy]; exact hxy))
          have e1 : (x == y) = false := by simpa using hxy
          have e2 : (x != y) = true := by simpa using hxy
          clear hxx hyy hall hw hc1 hc2
          go_wp2
          go_quiet (fail)
          go_wp2
          go_ret
          exact ⟨retB HB.out.symm, _, by rw [HW.out, World.drewN_drewN]⟩
      · obtain rfl : n = k := by omega
        have HB := Lib.hid (show r = true by rw [← HR.out]; exact sameLB_all (by rw [HX.out, HY.out]) (by rw [HX.out]; exact HA.out))
        clear hall hw
        go_wp2
        go_ret
        exact ⟨retB HB.out.symm, _, HW.out⟩
  · have HB := Lib.hid (show r = false by rw [← hr]; exact sameLB_len (by rw [hx, hy]; exact hl))
    have g1 : ((n : Int) == (m : Int)) = false := by simp; omega
    have g2 : ((n : Int) != (m : Int)) = true := by simp; omega
    clear h h' h1 h2 hx hy hr hl
    go_enter Try.func238, Try.ntmps238
    go_wp2
    go_ret
    exact ⟨retB HB.out.symm, 0, rfl⟩
theorem take_more {xs ys X Y : List Bool} {k : Nat} (h : xs.take (32 * k) = ys.take (32 * k)) (hX : xs.drop (32 * k) = X) (hY : ys.drop (32 * k) = Y) (hx : 32 ≤ X.length) (hy : 32 ≤ Y.length) (ha : ∀ i, i < 32 → X[i]?.getD false = Y[i]?.getD false) : xs.take (32 * (k + 1)) = ys.take (32 * (k + 1)) := by
  rw [show 32 * (k + 1) = 32 * k + 32 by omega, List.take_add, List.take_add, h, hX, hY]
  congr 1
  apply List.ext_getElem (by rw [List.length_take, List.length_take]; omega)
  intro i h1 h2
  rw [List.length_take] at h1 h2
  have := ha i (by omega)
  rw [List.getElem?_eq_getElem (by omega), List.getElem?_eq_getElem (by omega), Option.getD_some, Option.getD_some] at this
  rw [List.getElem_take, List.getElem_take, this]
theorem reads_more {w : World} {b off n k : Nat} {xs X : List Bool} (h : Reads w (some ⟨b, off, none⟩) n (bools X)) (hX : xs.drop (32 * k) = X) (hn : 32 ≤ n) : Reads w (some ⟨b, off + 32, none⟩) (n - 32) (bools (xs.drop (32 * (k + 1)))) := by
  have e : xs.drop (32 * (k + 1)) = X.drop 32 := by rw [← hX, List.drop_drop]; congr 1
  obtain ⟨hl, hc⟩ := h.bool
  rw [e]
  refine ⟨by rw [bools_length, List.length_drop, hl], ?_⟩
  rcases hc with h0 | ⟨b', off', he, hc⟩
  · omega
  · cases he
    refine .inr ⟨b, off + 32, rfl, fun i hi => ?_⟩
    rw [Nat.add_assoc, hc (32 + i) (by omega), bools_get _ i (by rw [List.length_drop, hl]; exact hi), List.getElem?_drop]
theorem reads_none {w : World} {a : Option Addr} {n k : Nat} {xs X : List Bool} (hX : xs.drop (32 * k) = X) (hl : X.length = n) (hn : n = 32) : Reads w a (n - 32) (bools (xs.drop (32 * (k + 1)))) := by
  have e : xs.drop (32 * (k + 1)) = X.drop 32 := by rw [← hX, List.drop_drop]; congr 1
  rw [e]
  exact ⟨by rw [bools_length, List.length_drop, hl], .inl (by omega)⟩
set_option maxHeartbeats 2000000 in
set_option maxRecDepth 100000 in
theorem c_impl_sameBits (a b : Option Addr) (n c c' : Nat) (xs ys : List Bool) (w : World) {r : Bool} (hr : sameLB xs ys = r) (hn : n ≤ maxLen) (hc : n ≤ c) (hc' : n ≤ c') (h : Reads w a n (bools xs)) (h' : Reads w b n (bools ys)) :
    Calls Try.prog 150 #[.slice a n c, .slice b n c'] w fun e w' => e = .returned (.bool r) ∧ ∃ q, w' = w.drewN q := by
  have HX := Lib.hid h.bool.1
  have HY := Lib.hid h'.bool.1
  have HR := Lib.hid hr
  have H := Lib.hid h
  have H' := Lib.hid h'
  unfold maxLen at hn
  have sz : (Try.prog.info? 227).map (·.size) = some 32 := by kernel_rfl
  have ut : Try.prog.underlying 227 = some (.array 32 4) := by kernel_rfl
  have hgd : Try.prog.eqGuardType Try.prog.depth 227 = false := by kernel_rfl
  have hsb : ∀ w, (sizeOf 4).run Try.prog w = .ok 1 w := Try.sizeOf4
  have hab : ∀ w, (isAgg 4).run Try.prog w = .ok false w := Try.isAgg4
  have ub := Try.underlying4
  have SZ := Lib.hid sz
  have UT := Lib.hid ut
  have HGD := Lib.hid hgd
  have HSB := Lib.hid hsb
  have HAB := Lib.hid hab
  have UB := Lib.hid ub
  clear h h' hr sz ut hgd hsb hab ub
  go_enter Try.func150, Try.ntmps150
  go_wp2_with fail
  go_loopw [0, 1] (fun sa sb wr => ∃ (k n1 c1 c2 q : Nat) (a1 b1 : Option Addr), 32 * k + n1 = n ∧ n1 ≤ c1 ∧ n1 ≤ c2 ∧ sa = .slice a1 n1 c1 ∧ sb = .slice b1 n1 c2 ∧ wr = w.drewN q ∧ Reads w a1 n1 (bools (xs.drop (32 * k))) ∧ Reads w b1 n1 (bools (ys.drop (32 * k))) ∧ xs.take (32 * k) = ys.take (32 * k)) (fun sa _ _ => match sa with | .slice _ l _ => l | _ => 0)
  case atStart => exact ⟨0, n, c, c', 0, a, b, by omega, hc, hc', rfl, rfl, rfl, H.out, H'.out, rfl⟩
  case round =>
    obtain ⟨k, n1, c1, c2, q, a1, b1, hk, hc1, hc2, rfl, rfl, rfl, hra, hrb, htk⟩ := hrel
    have HRA := Lib.hid hra
    have HRB := Lib.hid hrb
    have HTK := Lib.hid htk
    clear htk
    obtain ⟨wq, hwq⟩ : ∃ wq, w.drewN q = wq := ⟨_, rfl⟩
    have HWQ := Lib.hid hwq
    replace hra := hra.on (Ext.drewN w q)
    replace hrb := hrb.on (Ext.drewN w q)
    rw [hwq] at hra hrb ⊢
    clear hwq
    by_cases hlt : 32 ≤ n1
    · obtain ⟨X, hX⟩ : ∃ X, xs.drop (32 * k) = X := ⟨_, rfl⟩
      obtain ⟨Y, hY⟩ : ∃ Y, ys.drop (32 * k) = Y := ⟨_, rfl⟩
      rw [hX] at hra
      rw [hY] at hrb
      obtain ⟨hxl, hxc⟩ := hra.bool
      obtain ⟨hyl, hyc⟩ := hrb.bool
      obtain ⟨ab, ao, rfl, hac⟩ : ∃ b' off, a1 = some ⟨b', off, none⟩ ∧ ∀ i, i < n1 → wq.cell? ⟨b', off + i, none⟩ = some (.bool (X[i]?.getD false)) := by
        rcases hxc with h0 | ⟨b', off', rfl, hq⟩
        · omega
        · exact ⟨b', off', rfl, hq⟩
      obtain ⟨bb, bo, rfl, hbc⟩ : ∃ b' off, b1 = some ⟨b', off, none⟩ ∧ ∀ i, i < n1 → wq.cell? ⟨b', off + i, none⟩ = some (.bool (Y[i]?.getD false)) := by
        rcases hyc with h0 | ⟨b', off', rfl, hq⟩
        · omega
        · exact ⟨b', off', rfl, hq⟩
      obtain ⟨A, hA⟩ : ∃ A, (bools (X.take 32)).toArray = A := ⟨_, rfl⟩
      obtain ⟨B, hB⟩ : ∃ B, (bools (Y.take 32)).toArray = B := ⟨_, rfl⟩
      have gA : ∀ i, i < 32 → A[i]? = some (.bool (X[i]?.getD false)) := fun i hi => by
        rw [← hA, List.getElem?_toArray, bools_get _ i (by rw [List.length_take]; omega), List.getElem?_take, if_pos hi]
      have gB : ∀ i, i < 32 → B[i]? = some (.bool (Y[i]?.getD false)) := fun i hi => by
        rw [← hB, List.getElem?_toArray, bools_get _ i (by rw [List.length_take]; omega), List.getElem?_take, if_pos hi]
      have hldA : ∀ q, (Instr.loadAt 227 (.pointer (some ⟨ab, ao, none⟩))).run Try.prog (wq.drewN q) = .ok (.agg A) (wq.drewN q) := fun q => by
        rw [← hA]
        refine run_loadAt_mid (wq.drewN q) ab ao 227 (bools (X.take 32)) _ (fun j v hv => ?_) UT.out rfl (by rw [SZ.out, bools_length, List.length_take]; congr 1; omega)
        have hj : j < 32 := by have := (List.getElem?_eq_some_iff.1 hv).1; rw [bools_length, List.length_take] at this; omega
        have hq := hac j (by omega)
        rw [bools_get _ j (by rw [List.length_take]; omega), List.getElem?_take, if_pos hj] at hv
        rw [← hv]; exact hq
      have hldB : ∀ q, (Instr.loadAt 227 (.pointer (some ⟨bb, bo, none⟩))).run Try.prog (wq.drewN q) = .ok (.agg B) (wq.drewN q) := fun q => by
        rw [← hB]
        refine run_loadAt_mid (wq.drewN q) bb bo 227 (bools (Y.take 32)) _ (fun j v hv => ?_) UT.out rfl (by rw [SZ.out, bools_length, List.length_take]; congr 1; omega)
        have hj : j < 32 := by have := (List.getElem?_eq_some_iff.1 hv).1; rw [bools_length, List.length_take] at this; omega
        have hq := hbc j (by omega)
        rw [bools_get _ j (by rw [List.length_take]; omega), List.getElem?_take, if_pos hj] at hv
        rw [← hv]; exact hq
      have hatA : ∀ w, (Instr.arrayAt 227 (.slice (some ⟨ab, ao, none⟩) 32 c1)).run Try.prog w = .ok (.pointer (some ⟨ab, ao, none⟩)) w := fun w => run_arrayAt w _ 4 32 _ 32 c1 UT.out (Nat.le_refl _)
      have hatB : ∀ w, (Instr.arrayAt 227 (.slice (some ⟨bb, bo, none⟩) 32 c2)).run Try.prog w = .ok (.pointer (some ⟨bb, bo, none⟩)) w := fun w => run_arrayAt w _ 4 32 _ 32 c2 UT.out (Nat.le_refl _)
      have hge : ∀ (x y : Operand) w, (eqGuard .neq 227 x y (.agg A) (.agg B)).run Try.prog w = .ok () w := fun x y w => run_eqGuard_agg w .neq _ x y A B HGD.out
      have hq1 : (32 : Int) ≤ (c1 : Int) := by omega
      have hq2 : (32 : Int) ≤ (c2 : Int) := by omega
      have hq3 : (32 : Int) ≤ (n1 : Int) := by omega
      have HAC := Lib.hid hac
      have HBC := Lib.hid hbc
      have HXX := Lib.hid hX
      have HYY := Lib.hid hY
      have HXL := Lib.hid hxl
      have HYL := Lib.hid hyl
      by_cases hall : ∀ i, i < 32 → X[i]?.getD false = Y[i]?.getD false
      · have hneq : ∀ w, (binOp .neq 227 (.agg A) (.agg B)).run Try.prog w = .ok (.bool false) w := fun w => by
          rw [run_neq_bools w _ 4 32 A B _ _ UT.out UB.out HSB.out HAB.out gA gB, decide_eq_true hall]; rfl
        have HALL := Lib.hid hall
        clear hall gA gB hA hB hac hbc hX hY hxl hyl hxc hyc hra hrb
        go_wp2_with fail
        refine wp_region_quiet_lit (by kernel_rfl) (by kernel_rfl) ?_
        repeat (quiet_step (fail))
        refine quiet_load _ _ _ rfl rfl _ rfl _ (fun w hw => by obtain ⟨n, rfl⟩ := hw; exact hldA n) ?_
        repeat (quiet_step (fail))
        refine quiet_load _ _ _ rfl rfl _ rfl _ (fun w hw => by obtain ⟨n, rfl⟩ := hw; exact hldB n) ?_
        repeat (quiet_step (fail))
        refine wpQuiet_nil ?_
        intro _ hw'
        obtain ⟨nq, hw''⟩ := hw'
        subst hw''
        have HNX := Lib.hid (take_more HTK.out HXX.out HYY.out (by rw [HXL.out]; exact hlt) (by rw [HYL.out]; exact hlt) HALL.out)
        go_wp2_with fail
        go_quiet (fail)
        go_wp2
        go_roundw
        case rel =>
          refine ⟨k + 1, n1 - 32, c1 - 32, c2 - 32, _, _, _, by omega, by omega, by omega, rfl, rfl, by rw [← HWQ.out, World.drewN_drewN, World.drewN_drewN], ?_, ?_, HNX.out⟩
          · split
            · exact reads_none HXX.out HXL.out (by omega)
            · exact reads_more (by have q := HRA.out; rw [HXX.out] at q; exact q) HXX.out hlt
          · split
            · exact reads_none HYY.out HYL.out (by omega)
            · exact reads_more (by have q := HRB.out; rw [HYY.out] at q; exact q) HYY.out hlt
        case measure => simp; omega
      · have hneq : ∀ w, (binOp .neq 227 (.agg A) (.agg B)).run Try.prog w = .ok (.bool true) w := fun w => by
          rw [run_neq_bools w _ 4 32 A B _ _ UT.out UB.out HSB.out HAB.out gA gB, decide_eq_false hall]; rfl
        have HRF := Lib.hid (show r = false by
          rw [← HR.out, sameLB_drop HTK.out, hX, hY]
          refine decide_eq_false fun e => hall fun i _ => by rw [e])
        clear hall gA gB hA hB hac hbc hX hY hxl hyl hxc hyc hra hrb
        go_wp2_with fail
        refine wp_region_quiet_lit (by kernel_rfl) (by kernel_rfl) ?_
        repeat (quiet_step (fail))
        refine quiet_load _ _ _ rfl rfl _ rfl _ (fun w hw => by obtain ⟨n, rfl⟩ := hw; exact hldA n) ?_
        repeat (quiet_step (fail))
        refine quiet_load _ _ _ rfl rfl _ rfl _ (fun w hw => by obtain ⟨n, rfl⟩ := hw; exact hldB n) ?_
        repeat (quiet_step (fail))
        refine wpQuiet_nil ?_
        intro _ hw'
        obtain ⟨nq, hw''⟩ := hw'
        subst hw''
        go_wp2
        go_ret
        exact ⟨retB HRF.out.symm, _, by rw [← HWQ.out, World.drewN_drewN]⟩
    · have hq3 : ¬ (32 : Int) ≤ (n1 : Int) := by omega
      have HQ := Lib.hid (show sameLB (xs.drop (32 * k)) (ys.drop (32 * k)) = r by rw [← sameLB_drop HTK.out]; exact HR.out)
      clear hra hrb
      go_wp2_with fail
      refine (c_EqualB _ _ _ _ _ _ (xs.drop (32 * k)) (ys.drop (32 * k)) _ HQ.out (by unfold maxLen; omega) (by unfold maxLen; omega) (by rw [← HWQ.out]; exact HRA.out.on (Ext.drewN _ _)) (by rw [← HWQ.out]; exact HRB.out.on (Ext.drewN _ _))).mono ?_; rintro e w' ⟨rfl, q2, rfl⟩
      go_wp2
      go_ret
      exact ⟨rfl, _, by rw [← HWQ.out, World.drewN_drewN]⟩
end Go.Proofs.Ytibldgcfplpdkaa
