/- changeCells: the program's side, for any function that changes a count. -/
import Derived.Test.YtfmjohpmfcmpoabPlb
import Derived.Deep.DeepCutAuto
import Derived.Deep.LoopGhost
import Derived.Lib.SmallJoins
namespace Go.Proofs.Ytfmjohpmfcmpoab
open Go.ChangeShapes Go.WideShapes Go.ChangeAt Go.RowKit
set_option linter.unusedVariables false
theorem Box.put {w : World} {b : Nat} {t : TypeId} {vs : Array Value} (h : Box w b t vs) (i : Nat) (v : Value) : Box (w.setCell ⟨b, i, none⟩ v) b t (vs.setIfInBounds i v) := Go.Joins.block_setCell h v
theorem Box.other {w : World} {b : Nat} {t : TypeId} {vs : Array Value} (h : Box w b t vs) {a : Addr} (ha : b ≠ a.block) (v : Value) : Box (w.setCell a v) b t vs := (Below.heap_setCell _ _ _ _ (fun e => ha e)).trans h
set_option maxHeartbeats 1000000 in
theorem c_Clone (b off n c : Nat) (zs : List Int) (w : World) (hz : zs.length = n) (hn : n ≤ 1048576) (hc : ∀ i, i < n → w.cell? ⟨b, off + i, none⟩ = (ints zs)[i]?) :
    Calls Try.prog 74 #[.slice (some ⟨b, off, none⟩) n c] w fun e w' => ∃ v', e = .returned v' ∧ w'.ownsRow w.heap.size 2 1 v' n (ints zs) ∧ v' ≠ .slice none 0 0 ∧ Ext w w' := by
  obtain ⟨i0, hi, hz0, hz1, hz2⟩ := info_parts info_i64
  have q22 : ∀ (w : World) (a : Option Addr) (n c n' c' : Nat), (binOp .eql 22 (.slice a n c) (.slice none n' c')).run Try.prog w = .ok (.bool a.isNone) w := fun w a n c n' c' => Lib.run_eql_slice_nil w _ _ a n c n' c' Try.underlying22
  have HC := Lib.hid hc
  have HZ := Lib.hid hz
  clear hc hz
  go_enter Try.func74, Try.ntmps74
  go_wp2_with (at_builtin; refine wpList_append_own _ rfl _ _ 22 rfl w.heap.size 2 i0 (.int .i64 0) 1 8 Try.underlying22 hi hz0 hz1 hz2 rfl (by decide) _ _ _ rfl (World.ownsRow_made w #[] 0 (Nat.le_refl _) (Nat.zero_le _) rfl) ⟨b, off, none⟩ n c (ints zs) rfl ?qc1 ?qc2 ?qc3 ?qc4 ?qc5 ?qc6 ?_)
  case qc1 => rw [ints_length, HZ.out]; simp
  case qc2 =>
    intro j u hj
    have hjn : j < n := by
      have := (List.getElem?_eq_some_iff.1 hj).1
      rw [ints_length, HZ.out] at this
      exact this
    rw [Addr.add_lit]
    refine Lib.cell?_alloc_some _ ?_
    rw [HC.out j hjn]
    exact hj
  case qc3 => intro u hu; obtain ⟨x, _, rfl⟩ := List.mem_map.1 hu; rfl
  case qc4 => unfold maxLen; omega
  case qc5 => omega
  case qc6 => simp
  intro v' w1 hown hgrow hnil
  go_wp2
  go_ret
  refine ⟨v', rfl, by simpa using hown, ?_, ?_⟩
  · exact hnil
  · exact ((Below.refl _ w).alloc (Nat.le_refl _) _).grown hgrow (by simp) (by intro k hk; simp [Value.ownBlock] at hk; omega)
theorem c_Clone_r (a : Option Addr) (n c : Nat) (zs : List Int) (w : World) (h0 : 0 < n) (hn : n ≤ 1048576) (h : Reads w a n (ints zs)) :
    Calls Try.prog 74 #[.slice a n c] w fun e w' => ∃ g c' f, e = .returned (.slice (some ⟨g, 0, none⟩) n c') ∧ w.heap.size ≤ g ∧ n ≤ c' ∧ w'.rowIs g 2 c' (rowT zs f) ∧ Ext w w' := by
  obtain ⟨hl, h1⟩ := h
  rcases h1 with h1 | ⟨b, off, rfl, hc⟩
  · omega
  refine (c_Clone b off n c zs w (by rw [← ints_length]; exact hl) hn hc).mono ?_
  rintro e w' ⟨v', rfl, ho, hne, hx⟩
  obtain ⟨a', c', rfl, ho'⟩ := Own.of_row (e := 0) ho
  obtain ⟨g, f, rfl, h1, h2, h3, h4, h5⟩ := ho'.rowT h0
  exact ⟨g, c', f, rfl, h1, h4, h5, hx⟩
/-- cells whose counts have changed, if they are valid -/
def changeR (m d : Nat) (S : Int) (zs : List Int) : CV × Bool := if cellsB m d S zs then (⟨m, d, S, zs⟩, true) else (CV.no, false)
set_option maxHeartbeats 4000000 in
theorem c_change_PutCells (m d : Nat) (S : Int) (a : Option Addr) (n cap : Nat) (zs : List Int) (key : Int) (qb : Nat) (f : Nat → Int → Int) (w : World) (hok : CellsOk m d S zs) (hk : keyB key = true) (h : Reads w a n (ints zs))
    (hf : ∀ (k : Nat) (u : World), k < d → Ext w u → Calls Try.prog 150 #[.int .i64 k, .int .i64 (zs[placeN m S key k]?.getD 0), .pointer (some ⟨qb, 0, none⟩)] u fun e u' => e = .returned (.int .i64 (f k (zs[placeN m S key k]?.getD 0))) ∧ Ext u u')
    {R : CV} {r : Bool} (hv : changeR m d S (upd (placeN m S key) f zs d) = (R, r)) :
    Calls Try.prog 149 #[.agg #[.int .i64 m, .int .i64 d, .int .i64 S, .slice a n cap], .int .i64 key, .func (.func 150) #[] #[.pointer (some ⟨qb, 0, none⟩)]] w (RetCB 2 R r w) := by
  have OK := Lib.hid hok
  have HK := Lib.hid hk
  have hn : zs.length = n := h.int.1
  have HN := Lib.hid hn
  have HV2 := Lib.hid hv
  have HF := Lib.hid hf
  have hd6 := hok.d6
  have HRD := Lib.hid h
  have hn0 : 0 < n := by rw [← hn, hok.len]; exact Nat.mul_pos (by have := hok.m2; omega) hok.d1
  have hn4 : n ≤ 384 := by rw [← hn]; exact hok.le
  have HV := Lib.hid (placesR_y hok hk)
  have BX := Lib.hid (Box.alloc w #[.int .i64 m, .int .i64 d, .int .i64 S, .slice a n cap] 64)
  clear hok hk hn h hf hv
  go_enter Try.func149, Try.ntmps149
  go_wp2_with fail
  refine (c_impl_PlacesOf m d S _ n cap zs key _ HV.out (by unfold maxLen; omega) (HRD.out.on (by (repeat (first | assumption | exact Ext.refl _ | (with_reducible refine Ext.stepS ?_ (by first | exact Nat.le_refl _ | (simp; done) | (simp; omega)) _) | (with_reducible refine Ext.stepN ?_ _) | (with_reducible refine Ext.stepD ?_) | (with_reducible refine Ext.stepA ?_ _)))))).mono ?_; rintro e wa ⟨pa, pc, rfl, o', x'⟩
  have X1 := Lib.hid (show Ext w wa from ((Ext.refl w).stepA _ |>.stepA _).trans x')
  have BX1 := Lib.hid ((BX.out.past _).on x')
  have HSZ := Lib.hid (show w.heap.size + 2 ≤ wa.heap.size from Nat.le_trans (by first | omega | (simp; done) | (simp; omega)) x'.size)
  have BZ1 := Lib.hid ((Box.alloc_at (w.alloc (.cells #[.int .i64 m, .int .i64 d, .int .i64 S, .slice a n cap] 64)) #[.int .i64 0, .int .i64 0, .int .i64 0, .slice none 0 0] 64 (b := w.heap.size + 1) (by simp)).on x')
  rw [placesZ_length] at o'
  have O1 := Lib.hid o'
  rw [placesZ_length]
  obtain ⟨b0, b1, b2, b3⟩ := BX1.out.four
  clear o' x'
  have hne : w.heap.size ≠ wa.heap.size := by have := BX1.out.lt; omega
  have hne' : wa.heap.size ≠ w.heap.size := fun h => hne h.symm
  go_upto_region 4 with fail
  go_cut [10] (fun s10 wx => ∃ nb g c2 f2, s10 = .pointer (some ⟨nb, 0, none⟩) ∧ Box wx nb 64 #[.int .i64 m, .int .i64 d, .int .i64 S, .slice (some ⟨g, 0, none⟩) n c2] ∧ wa.heap.size ≤ g ∧ nb ≠ g ∧ wa.heap.size ≤ nb ∧ n ≤ c2 ∧ wx.rowIs g 2 c2 (rowT zs f2) ∧ Ext wa wx)
  case first =>
    go_region_held3 (fun w' => w'.cell? ⟨w.heap.size, 0, none⟩ = some (.int .i64 m) ∧ w'.cell? ⟨w.heap.size, 1, none⟩ = some (.int .i64 d) ∧ w'.cell? ⟨w.heap.size, 2, none⟩ = some (.int .i64 S) ∧ w'.cell? ⟨w.heap.size, 3, none⟩ = some (.slice a n cap)) (first | exact KA | go_keep)
      (first | (go_at_call 74; refine (c_Clone_r a n cap zs _ hn0 (by omega) (HRD.out.on (X1.out.trans (by (repeat (first | assumption | exact Ext.refl _ | (with_reducible refine Ext.stepS ?_ (by first | exact Nat.le_refl _ | (simp; done) | (simp; omega)) _) | (with_reducible refine Ext.stepN ?_ _) | (with_reducible refine Ext.stepD ?_) | (with_reducible refine Ext.stepA ?_ _))))))).mono ?_; rintro e wb ⟨g, c2, f2, rfl, hg, hc2, r2, x2⟩; have EA : Ext wa wb := Ext.trans (by (repeat (first | assumption | exact Ext.refl _ | (with_reducible refine Ext.stepS ?_ (by first | exact Nat.le_refl _ | (simp; done) | (simp; omega)) _) | (with_reducible refine Ext.stepN ?_ _) | (with_reducible refine Ext.stepD ?_) | (with_reducible refine Ext.stepA ?_ _)))) x2; have BX2 := Lib.hid (BX1.out.on EA); have KA := BX2.out.four; have R2 := Lib.hid r2; have G2' := Lib.hid (show wa.heap.size ≤ g from Nat.le_trans (by first | exact Nat.le_refl _ | (simp; done) | (simp; omega)) hg); have X2 := Lib.hid x2; have EH := Lib.hid EA; try (have NB := Lib.hid (Box.on (w := wa.alloc (.cells #[.int .i64 0, .int .i64 0, .int .i64 0, .slice none 0 0] 64)) (Box.alloc _ _ _) (Ext.trans (by (repeat (first | assumption | exact Ext.refl _ | (with_reducible refine Ext.stepS ?_ (by first | exact Nat.le_refl _ | (simp; done) | (simp; omega)) _) | (with_reducible refine Ext.stepN ?_ _) | (with_reducible refine Ext.stepD ?_) | (with_reducible refine Ext.stepA ?_ _)))) x2)); obtain ⟨z0, z1, z2, z3⟩ := NB.out.four; obtain ⟨y0, y1, y2, y3⟩ := NB.out.free; have GN := Lib.hid (show wa.heap.size < g by have := hg; simp at this; omega)); clear r2 x2 hg EA))
    · go_wp2_with fail
      go_meet
      exact ⟨wb.heap.size, g, c2, f2, rfl, Box.alloc _ _ _, G2'.out, by have := R2.out.lt; omega, EH.out.size, hc2, rowIs_on R2.out (Ext.alloc _ _), EH.out.stepA _⟩
    · go_wp2_with fail
      go_meet
      exact ⟨wa.heap.size, g, c2, f2, rfl, (((NB.out.put 0 _).put 1 _).put 2 _).put 3 _, by have := GN.out; omega, by have := GN.out; omega, Nat.le_refl _, hc2, (((R2.out.setOther (by have := GN.out; simp; omega) _).setOther (by have := GN.out; simp; omega) _).setOther (by have := GN.out; simp; omega) _).setOther (by have := GN.out; simp; omega) _, by have EH' := EH.out; (repeat (first | assumption | exact Ext.refl _ | (with_reducible refine Ext.stepS ?_ (by first | exact Nat.le_refl _ | (simp; done) | (simp; omega)) _) | (with_reducible refine Ext.stepN ?_ _) | (with_reducible refine Ext.stepD ?_) | (with_reducible refine Ext.stepA ?_ _)))⟩
  case rest =>
    obtain ⟨nb, g, c2, f2, rfl, hnb, hg, hng, hnw, hc2, hrow, hext⟩ := hcut
    have HNB := Lib.hid hnb
    have HRW := Lib.hid hrow
    have HEX := Lib.hid hext
    have HNG := Lib.hid hng
    have HG := Lib.hid hg
    have HNW := Lib.hid hnw
    clear hnb hrow hext b0 b1 b2 b3
    go_wp2
    go_loopw [34] (fun i wr => ∃ k : Nat, k ≤ d ∧ i = .int .i64 k ∧ wr.rowIs g 2 c2 (rowT (upd (placeN m S key) f zs k) f2) ∧ Box wr nb 64 #[.int .i64 m, .int .i64 d, .int .i64 S, .slice (some ⟨g, 0, none⟩) n c2] ∧ Ext wa wr) (fun i _ => d - (intOf i).toNat)
    case atStart => exact ⟨0, Nat.zero_le _, rfl, HRW.out, HNB.out, HEX.out⟩
    case round =>
      obtain ⟨k, hk, rfl, hrow, hbox, hext⟩ := hrel
      have HRR := Lib.hid hrow
      have HBB := Lib.hid hbox
      have HEE := Lib.hid hext
      clear hrow hbox hext
      by_cases hlt : k < d
      · obtain ⟨p, hp⟩ : ∃ p, placeN m S key k = p := ⟨_, rfl⟩
        have hpl : p < n := by rw [← hp, ← HN.out, OK.out.len]; exact placeN_lt S key (by have := OK.out.m2; omega) hlt
        obtain ⟨x, hx⟩ : ∃ x, zs[p]?.getD 0 = x := ⟨_, rfl⟩
        have hlen : (upd (placeN m S key) f zs k).length = n := by rw [upd_length]; exact HN.out
        have HP := Lib.hid hp
        have HX := Lib.hid hx
        have HL := Lib.hid hlen
        have HFX := Lib.hid (HF.out k)
        obtain ⟨y, hy⟩ : ∃ y, f k x = y := ⟨_, rfl⟩
        have HY := Lib.hid hy
        -- the place's cell
        obtain ⟨pb, po, rfl, hpc⟩ : ∃ b off, pa = some ⟨b, off, none⟩ ∧ wr.cell? ⟨b, off + k, none⟩ = some (.int .i64 (p : Int)) := by
          obtain ⟨_, hq⟩ := (O1.out.on HEE.out).reads.int
          rcases hq with h0 | ⟨b', off', rfl, hq⟩
          · omega
          · refine ⟨b', off', rfl, ?_⟩
            rw [hq k hlt, placesZ_get m d S key k hlt, hp]
        obtain ⟨ab, ao, rfl, hac⟩ : ∃ b off, a = some ⟨b, off, none⟩ ∧ wr.cell? ⟨b, off + p, none⟩ = some (.int .i64 x) := by
          obtain ⟨_, hq⟩ := (HRD.out.on (X1.out.trans HEE.out)).int
          rcases hq with h0 | ⟨b', off', rfl, hq⟩
          · omega
          · exact ⟨b', off', rfl, by rw [hq p hpl, hx]⟩
        obtain ⟨b0, b1, b2, b3⟩ := (BX1.out.on HEE.out).four
        obtain ⟨n0, n1, n2, n3⟩ := HBB.out.four
        have hget : (upd (placeN m S key) f zs k)[p]?.getD 0 = x := by rw [← hp, upd_get (fun i j h => placeN_mono S key (by have := OK.out.m2; omega) h) _ _ _ _ (Nat.le_refl _), hp, hx]
        have hgc := HRR.out.cell (i := p) (by omega)
        rw [rowT_at (by rw [hlen]; exact hpl), hget] at hgc
        have hgf := HRR.out.frozen p
        have hpl' : (p : Int) < (n : Int) := by omega
        have hp0 : (0 : Int) ≤ (p : Int) := by omega
        clear hp hx hlen hy hget hng hg hnw
        go_wp2_with fail
        have EWR : Ext w wr := X1.out.trans HEE.out
        have HF1 := Lib.hid (show ∀ (u : World), Ext w u → Calls Try.prog 150 #[.int .i64 k, .int .i64 x, .pointer (some ⟨qb, 0, none⟩)] u fun e u' => e = .returned (.int .i64 y) ∧ Ext u u' by have := HFX.out; rw [HP.out, HX.out, HY.out] at this; exact fun u hu => this u hlt hu)
        go_region_with (go_at_call 150; refine (HF1.out _ (by (repeat (first | assumption | exact Ext.refl _ | (with_reducible refine Ext.stepS ?_ (by first | exact Nat.le_refl _ | (simp; done) | (simp; omega)) _) | (with_reducible refine Ext.stepN ?_ _) | (with_reducible refine Ext.stepD ?_) | (with_reducible refine Ext.stepA ?_ _))))).mono ?_; rintro e wd ⟨rfl, xd⟩; have ED : Ext wr wd := Ext.trans (by (repeat (first | assumption | exact Ext.refl _ | (with_reducible refine Ext.stepS ?_ (by first | exact Nat.le_refl _ | (simp; done) | (simp; omega)) _) | (with_reducible refine Ext.stepN ?_ _) | (with_reducible refine Ext.stepD ?_) | (with_reducible refine Ext.stepA ?_ _)))) xd; obtain ⟨m0, m1, m2, m3⟩ := (HBB.out.on ED).four; have hgc2 := (rowIs_on HRR.out ED).cell (i := p) (by omega); have hgf2 := (rowIs_on HRR.out ED).frozen p; have HED := Lib.hid ED; clear ED xd)
        all_goals
          clear b0 b1 b2 b3 n0 n1 n2 n3 hgc hgf hpc hac
          go_wp2
          go_roundw
          case rel =>
            refine ⟨k + 1, by omega, by go_num, ?_, (HBB.out.on HED.out).other (by have := HNG.out; simpa using this) _, (HEE.out.trans HED.out).stepS (by have := HG.out; simpa using this) _⟩
            have := rowT_set (rowIs_on HRR.out HED.out) (k := p) (by rw [HL.out]; exact hpl) y
            show World.rowIs _ _ _ _ (rowT ((upd (placeN m S key) f zs k).set (placeN m S key k) (f k (zs[placeN m S key k]?.getD 0))) f2)
            rw [HP.out, HX.out, HY.out]
            exact this
          case measure => simp [intOf]; omega
      · obtain rfl : k = d := by omega
        obtain ⟨NZ, hNZ⟩ : ∃ z, upd (placeN m S key) f zs k = z := ⟨_, rfl⟩
        have hNL : NZ.length = n := by rw [← hNZ, upd_length]; exact HN.out
        have HV3 := Lib.hid (show changeR m k S NZ = (R, r) by rw [← hNZ]; exact HV2.out)
        have HRN := Lib.hid (show wr.rowIs g 2 c2 (rowT NZ f2) by rw [← hNZ]; exact HRR.out)
        have HON := Lib.hid (own_rowT (lo := wa.heap.size) (by omega) HG.out HRN.out)
        have HZN := Lib.hid (BZ1.out.on HEE.out)
        have HEW := Lib.hid (X1.out.trans HEE.out)
        obtain ⟨n0, n1, n2, n3⟩ := HBB.out.four
        clear hNZ
        subst hNL
        cases hcb : cellsB m k S NZ
        · have HCB := Lib.hid hcb
          have hv := HV3.out
          unfold changeR at hv
          rw [hcb] at hv
          simp only [Bool.false_eq_true, if_false, Prod.mk.injEq] at hv
          obtain ⟨rfl, rfl⟩ := hv
          clear hcb
          go_wp2_with fail
          refine (c_impl_cellsIfValid_no m k S _ _ _ NZ _ HCB.out (by unfold maxLen; omega) HON.out.reads).mono ?_; rintro e wz ⟨rfl, xz⟩
          have EZ := HEW.out.trans xz
          obtain ⟨z0, z1, z2, z3⟩ := (HZN.out.on xz).four
          obtain ⟨y0, y1, y2, y3⟩ := (HZN.out.on xz).free
          clear n0 n1 n2 n3 xz
          go_wp2
          refine bodyPost_ret (v := .tuple #[.agg #[.int .i64 0, .int .i64 0, .int .i64 0, .slice none 0 0], .bool false]) (by simp [results, Try.results149, go_sem, z0, z1, z2, z3]) rfl ⟨none, 0, rfl, Own.nil _ _ _ _, ?_⟩
          (repeat (first | assumption | exact Ext.refl _ | (with_reducible refine Ext.stepS ?_ (by first | exact Nat.le_refl _ | (simp; done) | (simp; omega)) _) | (with_reducible refine Ext.stepN ?_ _) | (with_reducible refine Ext.stepD ?_) | (with_reducible refine Ext.stepA ?_ _)))
        · have HCB := Lib.hid hcb
          have hv := HV3.out
          unfold changeR at hv
          rw [hcb] at hv
          simp only [if_true, Prod.mk.injEq] at hv
          obtain ⟨rfl, rfl⟩ := hv
          clear hcb
          go_wp2_with fail
          refine (c_impl_cellsIfValid m k S _ _ _ NZ _ HCB.out (by unfold maxLen; omega) HON.out.reads).mono ?_; rintro e wz ⟨rfl, xz⟩
          have EZ := HEW.out.trans xz
          have HOZ := Lib.hid (HON.out.on xz)
          have HSW := Lib.hid xz.size
          obtain ⟨z0, z1, z2, z3⟩ := (HZN.out.on xz).four
          obtain ⟨y0, y1, y2, y3⟩ := (HZN.out.on xz).free
          clear n0 n1 n2 n3 xz
          go_wp2
          refine bodyPost_ret (v := .tuple #[.agg #[.int .i64 m, .int .i64 k, .int .i64 S, .slice (some ⟨g, 0, none⟩) NZ.length c2], .bool true]) (by simp [results, Try.results149, go_sem, z0, z1, z2, z3]) rfl ⟨_, _, rfl, ?_, ?_⟩
          · refine own_touch HOZ.out (lo' := w.heap.size + 1) (hi' := w.heap.size + 2) ?_ (by have := HSZ.out; omega) (by have := HSZ.out; omega) HSW.out
            (repeat (first | assumption | exact Touch.refl _ _ _ | (with_reducible refine Touch.stepS ?_ (by first | exact Nat.le_refl _ | (simp; done) | (simp; omega)) (by first | (simp; done) | (simp; omega)) _) | (with_reducible refine Touch.stepN ?_ _) | (with_reducible refine Touch.stepA ?_ _)))
          · (repeat (first | assumption | exact Ext.refl _ | (with_reducible refine Ext.stepS ?_ (by first | exact Nat.le_refl _ | (simp; done) | (simp; omega)) _) | (with_reducible refine Ext.stepN ?_ _) | (with_reducible refine Ext.stepD ?_) | (with_reducible refine Ext.stepA ?_ _)))
end Go.Proofs.Ytfmjohpmfcmpoab
