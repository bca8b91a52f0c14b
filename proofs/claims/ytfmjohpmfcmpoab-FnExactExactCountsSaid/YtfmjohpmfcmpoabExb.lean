/- ExactCounts by the program. -/
import Derived.Test.YtfmjohpmfcmpoabExa
import Derived.Test.YtfmjohpmfcmpoabVas
import Derived.Test.YtfmjohpmfcmpoabTpt
import Derived.Deep.AppendLies
namespace Go.Proofs.Ytfmjohpmfcmpoab
open Go.ChangeShapes Go.WideShapes Go.ChangeAt Go.RowKit
set_option linter.unusedVariables false
def exR (zs : List Int) : List Int × List Int × Bool := if keysB zs then (leastD 300 zs, cntL (leastD 300 zs) zs, true) else ([], [], false)
theorem exR_no {zs : List Int} (h : keysB zs = false) : exR zs = ([], [], false) := if_neg (by rw [h]; decide)
theorem exR_yes {zs : List Int} (h : keysB zs = true) : exR zs = (leastD 300 zs, cntL (leastD 300 zs) zs, true) := if_pos h
theorem exR_le1 {zs L C : List Int} {b : Bool} (h : exR zs = (L, C, b)) : L.length ≤ 1048576 := by
  cases hk : keysB zs
  · rw [exR_no hk] at h; cases h; exact Nat.zero_le _
  · rw [exR_yes hk] at h; cases h; have := leastD_le 300 zs; omega
theorem exR_le2 {zs L C : List Int} {b : Bool} (h : exR zs = (L, C, b)) : C.length ≤ 1048576 := by
  cases hk : keysB zs
  · rw [exR_no hk] at h; cases h; exact Nat.zero_le _
  · rw [exR_yes hk] at h; cases h; rw [cntL_length]; have := leastD_le 300 zs; omega
/-- what such a function answers: two slices of its own, and whether it did -/
def RetSSB2 (t : TypeId) (xs ys : List Int) (b : Bool) (w : World) (e : Ending) (w' : World) : Prop :=
  ∃ a1 c1 a2 c2, e = .returned (.tuple #[.slice a1 xs.length c1, .slice a2 ys.length c2, .bool b]) ∧ Own t w' w.heap.size w'.heap.size a1 xs.length c1 (ints xs) ∧ Own t w' w.heap.size w'.heap.size a2 ys.length c2 (ints ys) ∧ Apart a1 a2 ∧ Ext w w'
def OutV (lo hi : Nat) (v : Value) : Prop := ∀ j, v.ownBlock = some j → j < lo ∨ hi ≤ j
/-- two rows that grow, beside a third one that is read -/
structure Ex2 (I : TypeId) (lo loS hiS : Nat) (w0 w : World) (aS : Option Addr) (nS cS : Nat) (S xs ys : List Int) (v u : Value) : Prop where
  o1 : w.ownsRow lo I 1 v xs.length (ints xs)
  o2 : w.ownsRow lo I 1 u ys.length (ints ys)
  p : ApartV v u
  r1 : OutV loS hiS v
  r2 : OutV loS hiS u
  so : Own I w loS hiS aS nS cS (ints S)
  s : hiS ≤ w.heap.size
  l : lo ≤ w.heap.size
  b : Below lo w0 w
variable {I : TypeId} {lo loS hiS nS cS : Nat} {w0 w w1 : World} {aS : Option Addr} {S xs ys : List Int} {v u : Value}
theorem ints_1 (xs : List Int) (x : Int) : ints (xs ++ [x]) = ints xs ++ [.int .i64 x] := by unfold ints; rw [List.map_append]; rfl
theorem Ex2.app1 {o : Obj} {g c N : Nat} {x : Int} (h : Ex2 I lo loS hiS w0 w aS nS cS S xs ys v u) (hN : xs.length = N) (ho : w1.ownsRow lo I 1 (.slice (some ⟨g, 0, none⟩) (N + 1) c) (N + 1) (ints xs ++ [.int .i64 x])) (hg : (w.alloc o).grownBy w1 v.ownBlock) (hat : v.ownBlock = some g ∨ g = (w.alloc o).heap.size) :
    Ex2 I lo loS hiS w0 w1 aS nS cS S (xs ++ [x]) ys (.slice (some ⟨g, 0, none⟩) (N + 1) c) u := by
  subst hN
  have hat' : v.ownBlock = some g ∨ g = w.heap.size + 1 := hat.imp id (fun e => by simpa using e)
  have hs : w1.heap.size ≥ w.heap.size + 1 := by have := hg.size; simpa using this
  have kp : ∀ k, k < w.heap.size → v.ownBlock ≠ some k → w1.heap[k]? = w.heap[k]? := fun k hk hne => by
    rw [hg.block k (by simp; omega) (Ne.symm hne)]; exact Below.heap_alloc _ _ _ hk
  refine ⟨by rw [List.length_append, List.length_singleton, ints_1]; exact ho, owns_far h.o2 fun j hj => kp j (h.o2.lt j hj).2 (fun e => h.p j e hj), fun j hj hk => ?_, fun j hj => ?_, h.r2, h.so.of_block fun k hk1 hk2 hk3 => kp k hk3 (fun e => ?_), by have := h.s; omega, by have := h.l; omega, Below.grown (Below.alloc h.b h.l o) hg (by have := h.l; simp; omega) fun j hj => (h.o1.lt j hj).1⟩
  · cases hj
    rcases hat' with h1 | h1
    · exact h.p g h1 hk
    · have := (h.o2.lt g hk).2; omega
  · cases hj
    rcases hat' with h1 | h1
    · exact h.r1 g h1
    · have := h.s; show g < loS ∨ hiS ≤ g; omega
  · have := h.r1 k e; omega
theorem Ex2.app2 {o : Obj} {g c N : Nat} {x : Int} (h : Ex2 I lo loS hiS w0 w aS nS cS S xs ys v u) (hN : ys.length = N) (ho : w1.ownsRow lo I 1 (.slice (some ⟨g, 0, none⟩) (N + 1) c) (N + 1) (ints ys ++ [.int .i64 x])) (hg : (w.alloc o).grownBy w1 u.ownBlock) (hat : u.ownBlock = some g ∨ g = (w.alloc o).heap.size) :
    Ex2 I lo loS hiS w0 w1 aS nS cS S xs (ys ++ [x]) v (.slice (some ⟨g, 0, none⟩) (N + 1) c) := by
  subst hN
  have hat' : u.ownBlock = some g ∨ g = w.heap.size + 1 := hat.imp id (fun e => by simpa using e)
  have hs : w1.heap.size ≥ w.heap.size + 1 := by have := hg.size; simpa using this
  have kp : ∀ k, k < w.heap.size → u.ownBlock ≠ some k → w1.heap[k]? = w.heap[k]? := fun k hk hne => by
    rw [hg.block k (by simp; omega) (Ne.symm hne)]; exact Below.heap_alloc _ _ _ hk
  refine ⟨owns_far h.o1 fun j hj => kp j (h.o1.lt j hj).2 (fun e => h.p j hj e), by rw [List.length_append, List.length_singleton, ints_1]; exact ho, fun j hj hk => ?_, h.r1, fun j hj => ?_, h.so.of_block fun k hk1 hk2 hk3 => kp k hk3 (fun e => ?_), by have := h.s; omega, by have := h.l; omega, Below.grown (Below.alloc h.b h.l o) hg (by have := h.l; simp; omega) fun j hj => (h.o2.lt j hj).1⟩
  · cases hk
    rcases hat' with h1 | h1
    · exact h.p g hj h1
    · have := (h.o1.lt g hj).2; omega
  · cases hj
    rcases hat' with h1 | h1
    · exact h.r2 g h1
    · have := h.s; show g < loS ∨ hiS ≤ g; omega
  · have := h.r2 k e; omega
theorem Ex2.set2 {g n c i : Nat} {x : Int} (h : Ex2 I lo loS hiS w0 w aS nS cS S xs ys v (.slice (some ⟨g, 0, none⟩) n c)) (hn : n = ys.length) (hi : i < ys.length) :
    Ex2 I lo loS hiS w0 (w.setCell ⟨g, i, none⟩ (.int .i64 x)) aS nS cS S xs (ys.set i x) v (.slice (some ⟨g, 0, none⟩) n c) := by
  subst hn
  have ho := owns_set (x := x) h.o2 rfl hi
  refine ⟨owns_far h.o1 fun j hj => heap_set _ (fun e => h.p j hj (by rw [e]; rfl)), by rw [List.length_set]; exact ho, h.p, h.r1, h.r2, h.so.of_block fun k hk1 hk2 hk3 => heap_set _ (fun e => ?_), by simpa [World.setCell] using h.s, by simpa [World.setCell] using h.l, below_set h.b (h.o2.lt g rfl).1 _⟩
  have := h.r2 g rfl
  have e' : k = g := e
  omega
theorem one_cell_at2 (w : World) (o : Value) (t : TypeId) {b : Nat} (hb : w.heap.size = b) : ∀ (j : Nat) (u : Value), [o][j]? = some u → (w.alloc (.cells #[o] t)).cell? ((⟨b, 0, none⟩ : Addr).add j) = some u := by subst hb; exact one_cell_at w o t
theorem owns_len {I : TypeId} {lo n m : Nat} {w : World} {v : Value} {vs : List Value} (h : w.ownsRow lo I 1 v n vs) (e : n = m) : w.ownsRow lo I 1 v m vs := e ▸ h
theorem cnt_at (zs L : List Int) (k i : Nat) (hk : k < zs.length) (hn : L.Nodup) (hi : i < L.length) (h : getI L i = getI zs k) : (cntL L (zs.take k)).set i (getI (cntL L (zs.take k)) i + 1) = cntL L (zs.take (k + 1)) := by
  rw [cntL_get L _ i hi, h, take_snocE zs k hk]; exact cntL_more hn hi h
set_option maxRecDepth 100000 in
set_option maxHeartbeats 4000000 in
theorem c_impl_ExactCounts (a : Option Addr) (n cap : Nat) (zs : List Int) (w : World) {L C : List Int} {b : Bool} (hv : exR zs = (L, C, b)) (hm : n ≤ 1048576) (h : Reads w a n (ints zs)) :
    Calls Try.prog 44 #[.slice a n cap] w (RetSSB2 2 L C b w) := by
  obtain ⟨i0, hi, hz0, hz1, hz2⟩ := info_parts info_i64
  have HZ := Lib.hid h.int.1
  have H := Lib.hid h
  have HM := Lib.hid (show n ≤ maxLen by unfold maxLen; omega)
  cases hk : keysB zs
  · rw [exR_no hk] at hv
    cases hv
    have HK := Lib.hid hk
    clear hk h hm
    go_enter Try.func44, Try.ntmps44
    go_wp2_with (go_at_call 79; refine (c_impl_AreKeys_q a n cap zs _ HK.out HM.out H.out).mono ?_; rintro e w' ⟨rfl, rfl⟩)
    go_ret3
    exact ⟨none, 0, none, 0, rfl, Own.nil _ _ _ _, Own.nil _ _ _ _, Apart.none_left _, Ext.refl _⟩
  · rw [exR_yes hk] at hv
    cases hv
    have HK := Lib.hid hk
    have hn256 : n ≤ 256 := by have := keysB_len hk; have := HZ.out; omega
    have HM2 := Lib.hid hm
    have X2 := Lib.hid (show Ext w ((w.alloc (.cells #[] 2)).alloc (.cells #[] 2)) by (repeat (first | assumption | exact Ext.refl _ | (with_reducible refine Ext.stepS ?_ (by first | exact Nat.le_refl _ | (simp; done) | (simp; omega)) _) | (with_reducible refine Ext.stepN ?_ _) | (with_reducible refine Ext.stepD ?_) | (with_reducible refine Ext.stepA ?_ _))))
    have X3 := Lib.hid (show Ext w (((w.alloc (.cells #[] 2)).alloc (.cells #[] 2)).alloc (.cells #[.slice a n cap] 22)) by (repeat (first | assumption | exact Ext.refl _ | (with_reducible refine Ext.stepS ?_ (by first | exact Nat.le_refl _ | (simp; done) | (simp; omega)) _) | (with_reducible refine Ext.stepN ?_ _) | (with_reducible refine Ext.stepD ?_) | (with_reducible refine Ext.stepA ?_ _))))
    have BV := Lib.hid (Box.alloc_at ((w.alloc (.cells #[] 2)).alloc (.cells #[] 2)) #[.slice a n cap] 22 (b := w.heap.size + 1 + 1) (by simp))
    have O1 := Lib.hid (owns_on (owns_on (World.ownsRow_made (base := w.heap.size) (size := 1) w (e := 2) #[] 0 (Nat.le_refl _) (Nat.zero_le _) rfl) (Ext.alloc _ (.cells #[] 2))) (Ext.alloc _ (.cells #[.slice a n cap] 22)))
    have O2 := Lib.hid (owns_on (World.ownsRow_made (base := w.heap.size) (size := 1) (w.alloc (.cells #[] 2)) (e := 2) #[] 0 (by simp) (Nat.zero_le _) rfl) (Ext.alloc _ (.cells #[.slice a n cap] 22)))
    obtain ⟨W3, hW3⟩ : ∃ W3, ((w.alloc (.cells #[] 2)).alloc (.cells #[] 2)).alloc (.cells #[.slice a n cap] 22) = W3 := ⟨_, rfl⟩
    have hs3 : W3.heap.size = w.heap.size + 3 := by rw [← hW3]; simp
    have hs1 : (w.alloc (.cells #[] 2)).heap.size = w.heap.size + 1 := by simp
    rw [hW3] at X3 BV O1 O2
    rw [hs1] at O2
    have HS3 := Lib.hid hs3
    have HW3 := Lib.hid hW3
    obtain ⟨S, hS⟩ : ∃ S, sortZ zs = S := ⟨_, rfl⟩
    have HSL := Lib.hid (show S.length = n by rw [← hS, sortZ_length]; exact HZ.out)
    have HAS := Lib.hid (show S.Pairwise (fun a b => a ≤ b) by rw [← hS]; exact sortZ_asc zs)
    have HSS := Lib.hid hS
    clear hk h hm hW3 hs3 hs1 hS
    go_enter Try.func44, Try.ntmps44
    go_wp2_with fail
    refine (c_impl_AreKeys_q a n cap zs _ HK.out HM.out H.out).mono ?_; rintro e w' ⟨rfl, rfl⟩
    go_wp2_with fail
    refine (c_Values a n cap _).mono ?_; rintro e w2 ⟨rfl, rfl⟩
    rw [HW3.out]
    go_wp2_with fail
    refine (c_SortedValues _ a n cap zs _ HM2.out (H.out.on X3.out) (by first | exact BV.out.cell 0 | (simp; exact BV.out.cell 0))).mono ?_; rintro e w4 ⟨aS, cS, rfl, oS, xS⟩
    rw [HSS.out] at oS
    have EX := Lib.hid (show Ex2 2 w.heap.size W3.heap.size w4.heap.size w w4 aS n cS S [] [] (.slice (some ⟨w.heap.size, 0, none⟩) 0 0) (.slice (some ⟨w.heap.size + 1, 0, none⟩) 0 0) from
      ⟨owns_on O1.out xS, owns_on O2.out xS, (fun j hj hk => by have h1 : w.heap.size = j := Option.some.inj hj; have h2 : w.heap.size + 1 = j := Option.some.inj hk; omega), (fun j hj => by cases hj; exact .inl (by have := HS3.out; show w.heap.size < _; omega)), (fun j hj => by cases hj; exact .inl (by have := HS3.out; show w.heap.size + 1 < _; omega)), oS, Nat.le_refl _, (X3.out.trans xS).size, X3.out.trans xS⟩)
    clear oS xS
    go_wp2
    go_loopw [5, 6, 19] (fun v u i wr => ∃ (k : Nat) (L' : List Int), k ≤ n ∧ i = .int .i64 k ∧ RunAt S L' k ∧ Ex2 2 w.heap.size W3.heap.size w4.heap.size w wr aS n cS S L' (cntL L' (S.take k)) v u) (fun _ _ i _ => n - (intOf i).toNat)
    case atStart => exact ⟨0, [], Nat.zero_le _, rfl, RunAt.zero S, EX.out⟩
    case round =>
      obtain ⟨k, L', hk, rfl, hra, hex⟩ := hrel
      clear EX
      obtain ⟨a1, c1, rfl, ho1⟩ := Own.of_row (e := 0) hex.o1
      obtain ⟨a2, c2, rfl, ho2⟩ := Own.of_row (e := 0) hex.o2
      have hcl : (cntL L' (S.take k)).length = L'.length := cntL_length _ _
      have hll := hra.n
      have EX := Lib.hid hex
      have RA := Lib.hid hra
      have HO1 := Lib.hid ho1
      have HO2 := Lib.hid ho2
      clear ho1 ho2 hra
      by_cases hlt : k < n
      · have hltI : (k : Int) < (n : Int) := by omega
        have hkS : k < S.length := by rw [HSL.out]; exact hlt
        rcases hex.so.reads.int.2 with h0 | ⟨bS, offS, rfl, hc⟩
        · omega
        have cz : wr.cell? ⟨bS, offS + k, none⟩ = some (.int .i64 (getI S k)) := hc k hlt
        obtain ⟨y, hy⟩ : ∃ y, getI S k = y := ⟨_, rfl⟩
        rw [hy] at cz
        by_cases hB : 0 < L'.length ∧ getI L' (L'.length - 1) = getI S k
        · obtain ⟨hp, heq⟩ := hB
          have RA2 := Lib.hid (RA.out.old hkS hp heq)
          obtain ⟨m, hm⟩ : ∃ m, L'.length = m + 1 := ⟨L'.length - 1, by omega⟩
          have hmL : L'.length - 1 = m := by omega
          rw [hmL] at heq
          have hcm := cnt_at S L' k m hkS RA.out.nodup (by omega) heq
          rcases owns_parts hex.o1 with ⟨_, h0⟩ | ⟨g1, c1', f1, he1, hb1, hn1, hm1, hr1, hf1⟩
          · omega
          rcases owns_parts hex.o2 with ⟨_, h0⟩ | ⟨g2, c2', f2, he2, hb2, hn2, hm2, hr2, hf2⟩
          · omega
          cases he1
          cases he2
          have k1 : wr.cell? ⟨g1, m, none⟩ = some (.int .i64 y) := by
            have := hr1.cell (i := m) (by omega)
            rw [this, ← hf1 m (by omega), ints_get L' m (by omega)]
            show some (Value.int .i64 (getI L' m)) = _
            rw [heq, hy]
          obtain ⟨x, hx⟩ : ∃ x, getI (cntL L' (S.take k)) m = x := ⟨_, rfl⟩
          have k2 : wr.cell? ⟨g2, m, none⟩ = some (.int .i64 x) := by
            have := hr2.cell (i := m) (by omega)
            rw [this, ← hf2 m (by omega), ints_get _ m (by omega)]
            show some (Value.int .i64 (getI (cntL L' (S.take k)) m)) = _
            rw [hx]
          have k3 := hr2.frozen m
          have hx2 : 0 ≤ x ∧ x ≤ 256 := by
            rw [← hx, cntL_get _ _ _ (by omega)]
            have := cntZ_le (S.take k) (getI L' m)
            rw [List.length_take] at this
            omega
          obtain ⟨x0, x1⟩ := hx2
          have m0 : (0 : Int) ≤ (m : Int) := by omega
          have m1 : (m : Int) ≤ 256 := by omega
          have m2 : (m : Int) < ((m + 1 : Nat) : Int) := by omega
          have EX2 := Lib.hid (show Ex2 _ _ _ _ _ (wr.setCell ⟨g2, m, none⟩ (.int .i64 (x + 1))) _ _ _ _ _ _ _ _ from hex.set2 (x := x + 1) rfl (by omega))
          rw [← hx, hcm, hx] at EX2
          rw [hcl, hm] at EX2 ⊢
          clear hy hr1 hf1 hr2 hf2 hex hx hcm heq hmL hm hp hc hcl hll RA EX hb1 hn1 hm1 hb2 hn2 hm2
          go_wp2
          go_roundw
          case rel => exact ⟨k + 1, L', by omega, by go_num, RA2.out, EX2.out⟩
          case measure => simp [intOf]; omega
        · obtain ⟨hfr, hRA2⟩ := RA.out.fresh HAS.out hkS hB
          have RA2 := Lib.hid hRA2
          have hnew := Lib.hid (show cntL (L' ++ [getI S k]) (S.take (k + 1)) = cntL L' (S.take k) ++ [1] by
            rw [take_snocE S k hkS]; exact cntL_new RA.out.m hfr)
          rw [hy] at RA2 hnew hfr
          have HNEW := Lib.hid hnew.out
          have N2 := Lib.hid hcl
          by_cases hp : 0 < L'.length
          · obtain ⟨m, hm⟩ : ∃ m, L'.length = m + 1 := ⟨L'.length - 1, by omega⟩
            have hmL : L'.length - 1 = m := by omega
            rcases owns_parts hex.o1 with ⟨_, h0⟩ | ⟨g1, c1', f1, he1, hb1, hn1, hm1, hr1, hf1⟩
            · omega
            cases he1
            obtain ⟨z, hz⟩ : ∃ z, getI L' m = z := ⟨_, rfl⟩
            have k1 : wr.cell? ⟨g1, m, none⟩ = some (.int .i64 z) := by
              have := hr1.cell (i := m) (by omega)
              rw [this, ← hf1 m (by omega), ints_get L' m (by omega)]
              show some (Value.int .i64 (getI L' m)) = _
              rw [hz]
            have hzy : ¬ z = y := fun e => hB ⟨hp, by rw [hmL, hz, e, hy]⟩
            have m0 : (0 : Int) ≤ (m : Int) := by omega
            have m1 : (m : Int) ≤ 256 := by omega
            have m2 : (m : Int) < ((m + 1 : Nat) : Int) := by omega
            have m3 : m ≤ 256 := by omega
            have N1 := Lib.hid hm
            rw [hm] at N2
            rw [hcl, hm] at EX ⊢
            clear hr1 hf1 hex hcl hmL hm hp hc hll RA hb1 hn1 hm1 hy hz hfr hnew hB hkS hRA2
            go_wp2_with (first | (at_builtin; refine wpList_append_lies _ rfl _ _ 22 rfl w.heap.size 2 i0 _ 1 8 Try.underlying22 hi hz0 hz1 hz2 rfl (by decide) _ _ _ rfl (owns_on (owns_len EX.out.o1 N1.out) (Ext.alloc _ _)) ⟨_, 0, none⟩ 1 1 [.int .i64 y] rfl rfl (one_cell_at2 _ _ _ rfl) (by intro u hu; simp at hu; subst hu; rfl) (by decide) (by unfold maxLen; omega) (by omega) (by have h5 := EX.out.l; simp; omega) _ rfl ?_; intro g1 c1' w1' hown' hgrow hat hlt9; have EX2 := Lib.hid (EX.out.app1 N1.out hown' hgrow hat); clear hown' hgrow hat hlt9 EX) | (at_builtin; refine wpList_append_lies _ rfl _ _ 22 rfl w.heap.size 2 i0 _ 1 8 Try.underlying22 hi hz0 hz1 hz2 rfl (by decide) _ _ _ rfl (owns_on (owns_len EX2.out.o2 N2.out) (Ext.alloc _ _)) ⟨_, 0, none⟩ 1 1 [.int .i64 1] rfl rfl (one_cell_at2 _ _ _ rfl) (by intro u hu; simp at hu; subst hu; rfl) (by decide) (by unfold maxLen; omega) (by omega) (by have h5 := EX2.out.l; simp; omega) _ rfl ?_; intro g2 c2' w2' hown' hgrow hat hlt9; have EX3 := Lib.hid (EX2.out.app2 N2.out hown' hgrow hat); clear hown' hgrow hat hlt9 EX2))
            go_roundw
            case rel => exact ⟨k + 1, L' ++ [y], by omega, by go_num, RA2.out, by rw [HNEW.out]; exact EX3.out⟩
            case measure => simp [intOf]; omega
          · have h0 : L'.length = 0 := by omega
            have N1 := Lib.hid h0
            rw [h0] at N2
            rw [hcl, h0] at EX ⊢
            clear hex hcl h0 hp hc hll RA hy hfr hnew hB hkS hRA2
            go_wp2_with (first | (at_builtin; refine wpList_append_lies _ rfl _ _ 22 rfl w.heap.size 2 i0 _ 1 8 Try.underlying22 hi hz0 hz1 hz2 rfl (by decide) _ _ _ rfl (owns_on (owns_len EX.out.o1 N1.out) (Ext.alloc _ _)) ⟨_, 0, none⟩ 1 1 [.int .i64 y] rfl rfl (one_cell_at2 _ _ _ rfl) (by intro u hu; simp at hu; subst hu; rfl) (by decide) (by unfold maxLen; omega) (by omega) (by have h5 := EX.out.l; simp; omega) _ rfl ?_; intro g1 c1' w1' hown' hgrow hat hlt9; have EX2 := Lib.hid (EX.out.app1 N1.out hown' hgrow hat); clear hown' hgrow hat hlt9 EX) | (at_builtin; refine wpList_append_lies _ rfl _ _ 22 rfl w.heap.size 2 i0 _ 1 8 Try.underlying22 hi hz0 hz1 hz2 rfl (by decide) _ _ _ rfl (owns_on (owns_len EX2.out.o2 N2.out) (Ext.alloc _ _)) ⟨_, 0, none⟩ 1 1 [.int .i64 1] rfl rfl (one_cell_at2 _ _ _ rfl) (by intro u hu; simp at hu; subst hu; rfl) (by decide) (by unfold maxLen; omega) (by omega) (by have h5 := EX2.out.l; simp; omega) _ rfl ?_; intro g2 c2' w2' hown' hgrow hat hlt9; have EX3 := Lib.hid (EX2.out.app2 N2.out hown' hgrow hat); clear hown' hgrow hat hlt9 EX2))
            go_roundw
            case rel => exact ⟨k + 1, L' ++ [y], by omega, by go_num, RA2.out, by rw [HNEW.out]; exact EX3.out⟩
            case measure => simp [intOf]; omega
      · obtain rfl : k = n := by omega
        have hlt' : ¬ (k : Int) < (k : Int) := by omega
        have e1 : S.take k = S := List.take_of_length_le (by rw [HSL.out]; exact Nat.le_refl _)
        have hS9 := HSS.out
        have e2 : L' = leastD 300 zs := by
          have h9 := RA.out
          rw [← hS9, ← HZ.out] at h9
          exact run_least (by have := HZ.out; omega) h9
        have e3 : cntL L' (S.take k) = cntL (leastD 300 zs) zs := by rw [e1, e2, ← hS9, cntL_sort]
        rw [e3] at HO2 EX ⊢
        rw [e2] at HO1 EX ⊢
        have HX := Lib.hid (show Ext w wr from EX.out.b)
        have HAP := Lib.hid (show Apart a1 a2 from fun x y hx hy e => by
          subst hx; subst hy
          exact EX.out.p x.block rfl (by rw [e]; rfl))
        clear hex hcl hll RA e1 e2 e3 hS9 EX
        go_wp2
        go_ret3
        exact ⟨a1, c1, a2, c2, rfl, HO1.out, HO2.out, HAP.out, HX.out⟩
end Go.Proofs.Ytfmjohpmfcmpoab
