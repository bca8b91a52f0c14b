/- SummaryQuantile: both sides. -/
import Derived.Test.YtmgkbgdbahijnaaSqn
namespace Go.Proofs.Ytmgkbgdbahijnaa
open Go.ChangeShapes Go.WideShapes Go.ChangeAt Go.RowKit Go.Proofs.Ytmgkbgdbahijnaa.Flo
set_option linter.unusedVariables false
theorem run_store_fnv {P : Program} {w : World} {a : Addr} {m : Mode} (fn : Fn) (first captured : Array Value) : (store a (.func fn first captured) m).run P w = stored P w a (.func fn first captured) m := run_store P w a _ m rfl
attribute [local go_sem] run_store_fnv
theorem fv0_ : fv .f32 0 = some 0 := fv_some (by rw [dec_zero]; rfl)
theorem fv_fin_ {y : Nat} (h : isFin .f32 y = true) : fv .f32 y = some y := by
  obtain ⟨s, m, e, hd⟩ := isFin_number h
  exact fv_some (by rw [hd]; rfl)
def nearM (C : Int) (n : Nat) (gs ss : List Int) (x : Nat) : Nat := leastM (missF (placeR x C) (lowR gs) (highR gs ss)) n
def squanR (N C : Int) (vs : List Nat) (gs ss : List Int) (x : Nat) : Option Nat × Bool :=
  if summB N C vs gs ss && (decide (C ≠ 0) && shareB x) then (some (getN vs (nearM C vs.length gs ss x)), true) else (some 0, false)
theorem squanR_1 {N C : Int} {vs : List Nat} {gs ss : List Int} {x : Nat} (h : summB N C vs gs ss = false) : squanR N C vs gs ss x = (some 0, false) := by unfold squanR; rw [h]; rfl
theorem squanR_2 {N C : Int} {vs : List Nat} {gs ss : List Int} {x : Nat} (h : C = 0) : squanR N C vs gs ss x = (some 0, false) := by unfold squanR; rw [decide_eq_false (show ¬ C ≠ 0 from fun e => e h)]; simp
theorem squanR_3 {N C : Int} {vs : List Nat} {gs ss : List Int} {x : Nat} (h : shareB x = false) : squanR N C vs gs ss x = (some 0, false) := by unfold squanR; rw [h]; simp
theorem squanR_y {N C : Int} {vs : List Nat} {gs ss : List Int} {x : Nat} (h : summB N C vs gs ss = true) (h0 : C ≠ 0) (h' : shareB x = true) : squanR N C vs gs ss x = (some (getN vs (nearM C vs.length gs ss x)), true) := by unfold squanR; rw [h, h', decide_eq_true h0]; rfl
theorem ranks_bd {N C : Int} {vs : List Nat} {gs ss : List Int} (ok : SummOk N C vs gs ss) {k : Nat} (hk : k < vs.length) : (0 ≤ lowR gs k ∧ lowR gs k ≤ 2000000) ∧ (0 ≤ highR gs ss k ∧ highR gs ss k ≤ 2000000) := by
  have h1 := highR_bd ok hk
  have h2 := ok.slack k hk
  have h3 := (sumTo_pos (f := getI gs) (n := k + 1) (fun i hi => by have := ok.gap i (by omega); omega)).1
  have e : highR gs ss k = lowR gs k + getI ss k := rfl
  have e2 : lowR gs k = sumTo (getI gs) (k + 1) := rfl
  omega
theorem summ_some {N C : Int} {vs : List Nat} {gs ss : List Int} (ok : SummOk N C vs gs ss) (h : C ≠ 0) : 1 ≤ vs.length := by
  have h1 := ok.sum
  by_cases e : vs.length = 0
  · rw [e] at h1; exact absurd h1.symm h
  · omega
set_option maxRecDepth 100000 in
set_option maxHeartbeats 4000000 in
theorem c_impl_SummaryQuantile (N C : Int) (a1 : Option Addr) (cap1 : Nat) (vs : List Nat) (a2 : Option Addr) (cap2 : Nat) (gs : List Int) (a3 : Option Addr) (cap3 : Nat) (ss : List Int) (x : Nat) (w : World) {v : Option Nat} {r : Bool} (hv : squanR N C vs gs ss x = (v, r)) (hl : vs.length + gs.length + ss.length ≤ 1048576) (h : Reads3 w a1 vs.length (flos vs) a2 gs.length (ints gs) a3 ss.length (ints ss)) (hb : ∀ z ∈ vs, z < 4294967296) (hx : x < 4294967296) :
    Calls Try.prog 35 #[.agg #[.int .i64 N, .int .i64 C, .slice a1 vs.length cap1, .slice a2 gs.length cap2, .slice a3 ss.length cap3], .float .f32 x] w fun e w' => ∃ f, e = .returned (.tuple #[.float .f32 f, .bool r]) ∧ fv .f32 f = v ∧ Ext w w' := by
  have H := Lib.hid h
  have HL := Lib.hid hl
  have HB := Lib.hid hb
  have BX := Lib.hid (Box.alloc w #[.int .i64 N, .int .i64 C, .slice a1 vs.length cap1, .slice a2 gs.length cap2, .slice a3 ss.length cap3] 31)
  have X0 := Lib.hid (Ext.alloc w (.cells #[.int .i64 N, .int .i64 C, .slice a1 vs.length cap1, .slice a2 gs.length cap2, .slice a3 ss.length cap3] 31))
  obtain ⟨b0, b1, b2, b3, b4⟩ := BX.out.five
  cases ht : summB N C vs gs ss
  · rw [squanR_1 ht] at hv
    cases hv
    have HT := Lib.hid ht
    clear ht h hl hb hx
    go_enter Try.func35, Try.ntmps35
    go_wp2_with fail
    clear b0 b1 b2 b3 b4
    refine (c_impl_ValidSummary N C _ _ vs _ _ gs _ _ ss _ HT.out HL.out (H.out.on X0.out) HB.out).mono ?_; rintro e w1 ⟨rfl, x'⟩
    have X1 := Lib.hid (X0.out.trans x')
    clear x'
    go_wp2
    go_ret2
    exact ⟨_, rfl, fv0_, X1.out⟩
  have HT := Lib.hid ht
  have OK := Lib.hid (summ_ok ht)
  by_cases hC0 : C = 0
  · rw [squanR_2 hC0] at hv
    cases hv
    subst hC0
    clear ht h hl hb hx
    go_enter Try.func35, Try.ntmps35
    go_wp2_with fail
    clear b0 b1 b2 b3 b4
    refine (c_impl_ValidSummary N 0 _ _ vs _ _ gs _ _ ss _ HT.out HL.out (H.out.on X0.out) HB.out).mono ?_; rintro e w1 ⟨rfl, x'⟩
    obtain ⟨b0, b1, b2, b3, b4⟩ := (BX.out.on x').five
    have X1 := Lib.hid (X0.out.trans x')
    clear x'
    go_wp2
    go_ret2
    exact ⟨_, rfl, fv0_, X1.out⟩
  have e0 : (C == 0) = false := beq_eq_false_iff_ne.2 hC0
  cases hs : shareB x
  · rw [squanR_3 hs] at hv
    cases hv
    have HS := Lib.hid hs
    clear ht h hl hb hx hs
    go_enter Try.func35, Try.ntmps35
    go_wp2_with fail
    clear b0 b1 b2 b3 b4
    refine (c_impl_ValidSummary N C _ _ vs _ _ gs _ _ ss _ HT.out HL.out (H.out.on X0.out) HB.out).mono ?_; rintro e w1 ⟨rfl, x'⟩
    obtain ⟨b0, b1, b2, b3, b4⟩ := (BX.out.on x').five
    have X1 := Lib.hid (X0.out.trans x')
    clear x'
    go_wp2_with fail
    refine (c_impl_isShare x _ HS.out).mono ?_; rintro e w2 ⟨rfl, rfl⟩
    go_wp2
    go_ret2
    exact ⟨_, rfl, fv0_, X1.out⟩
  rw [squanR_y ht hC0 hs] at hv
  have hcb := OK.out.d.c1
  have hcb2 := OK.out.d.c2
  obtain ⟨K, hK⟩ : ∃ K, placeR x C = K := ⟨_, rfl⟩
  have hk1 : 1 ≤ K := by rw [← hK]; exact placeR_lo (by omega)
  have hk2 : K ≤ C := by rw [← hK]; exact placeR_hi
  have hn1 := summ_some OK.out hC0
  have HG := Lib.hid (show gs.length = vs.length from OK.out.d.ge)
  have HSL := Lib.hid (show ss.length = vs.length from OK.out.d.se)
  have HVX := Lib.hid (show vs.length ≤ 64 from OK.out.d.vx)
  obtain ⟨m, hm⟩ : ∃ m, nearM C vs.length gs ss x = m := ⟨_, rfl⟩
  rw [hm] at hv
  cases hv
  have hml : m < vs.length := by
    have := (leastM_lt (missF (placeR x C) (lowR gs) (highR gs ss)) vs.length).2 (by omega)
    rw [← hm]; exact this
  have HM := Lib.hid (show leastM (missF K (lowR gs) (highR gs ss)) gs.length = m by rw [HG.out, ← hK]; exact hm)
  obtain ⟨y, hy⟩ : ∃ y, getN vs m = y := ⟨_, rfl⟩
  have HY := Lib.hid hy
  have HFV := Lib.hid (show fv .f32 y = some (getN vs m) by rw [hy]; exact fv_fin_ (by rw [← hy]; exact finB_at OK.out.fin hml))
  have HSH := Lib.hid hs
  have HK := Lib.hid hK
  have HKB := Lib.hid (show 0 ≤ K ∧ K ≤ 2000000 by omega)
  have HCB := Lib.hid (show 0 ≤ C ∧ C ≤ 2097152 by omega)
  have kml : (m : Int) < (vs.length : Int) := by omega
  have HMS := Lib.hid hml
  have HN1 := Lib.hid hn1
  clear ht h hl hb hx hs hK hk1 hk2 hcb hcb2 hm hy hn1 hml
  go_enter Try.func35, Try.ntmps35
  go_wp2_with fail
  clear b0 b1 b2 b3 b4
  refine (c_impl_ValidSummary N C _ _ vs _ _ gs _ _ ss _ HT.out HL.out (H.out.on X0.out) HB.out).mono ?_; rintro e w1 ⟨rfl, x'⟩
  have B1 := Lib.hid (BX.out.on x')
  obtain ⟨b0, b1, b2, b3, b4⟩ := (BX.out.on x').five
  have X1 := Lib.hid (X0.out.trans x')
  clear x'
  go_wp2_with fail
  refine (c_impl_isShare x _ HSH.out).mono ?_; rintro e w2 ⟨rfl, rfl⟩
  go_wp2_with fail
  refine (c_impl_rankOfShare x _ _ HK.out HSH.out HCB.out.1 HCB.out.2).mono ?_; rintro e w2 ⟨rfl, rfl⟩
  have B3 := Lib.hid ((B1.out.past (.cells #[.int .i64 K] 2)).past (.cells #[.func (.func 84) #[] #[.pointer (some ⟨w1.heap.size, 0, none⟩)]] 91))
  have BR := Lib.hid ((Box.alloc w1 #[.int .i64 K] 2).past (.cells #[.func (.func 84) #[] #[.pointer (some ⟨w1.heap.size, 0, none⟩)]] 91))
  have BF := Lib.hid (Box.alloc_at (w1.alloc (.cells #[.int .i64 K] 2)) #[.func (.func 84) #[] #[.pointer (some ⟨w1.heap.size, 0, none⟩)]] 91 (b := w1.heap.size + 1) (by simp))
  have X3 := Lib.hid ((X1.out.stepA (.cells #[.int .i64 K] 2)).stepA (.cells #[.func (.func 84) #[] #[.pointer (some ⟨w1.heap.size, 0, none⟩)]] 91))
  go_upto_region 5 with fail
  generalize hw3 : ((w1.alloc (.cells #[.int .i64 K] 2)).alloc (.cells #[.func (.func 84) #[] #[.pointer (some ⟨w1.heap.size, 0, none⟩)]] 91)) = w3 at *
  clear b0 b1 b2 b3 b4
  obtain ⟨b0, b1, b2, b3, b4⟩ := B3.out.five
  go_wp2_with fail
  clear b0 b1 b2 b3 b4
  refine (c_impl_ranksIn N C _ _ _ _ gs.length _ gs _ ss.length _ ss _ (by have := HG.out; have := HVX.out; omega) (by have := HG.out; have := HSL.out; omega) OK.out.d.c2 (fun i hi => OK.out.gap i (by have := HG.out; omega)) (fun i hi => OK.out.slack i (by have := HG.out; omega)) (H.out.on X3.out).r2 (H.out.on X3.out).r3).mono ?_; rintro e w4 ⟨ra, rfl, rp, x4⟩
  have RP := Lib.hid rp
  have B4 := Lib.hid (B3.out.on x4)
  have BR4 := Lib.hid (BR.out.on x4)
  have BF4 := Lib.hid (BF.out.on x4)
  have X4 := Lib.hid (X3.out.trans x4)
  clear rp x4
  go_wp2_with fail
  refine (c_firstLeastR w1.heap.size (w1.heap.size + 1) K _ gs.length _ (lowR gs) (highR gs ss) _ (by have := HG.out; have := HN1.out; omega) (by have := HG.out; have := HVX.out; omega) RP.out HKB.out.1 HKB.out.2 (fun i hi => (ranks_bd OK.out (by have := HG.out; omega)).1) (fun i hi => (ranks_bd OK.out (by have := HG.out; omega)).2) (BF4.out.cell 0) (BR4.out.cell 0)).mono ?_; rw [HM.out]; rintro e w5 ⟨rfl, x5⟩
  have X5 := Lib.hid (X4.out.trans x5)
  obtain ⟨b0, b1, b2, b3, b4⟩ := (B4.out.on x5).five
  rcases (H.out.on X5.out).r1.flo.2 with he | ⟨g, off, rfl, hc⟩
  · exfalso; have := HN1.out; omega
  have hcell : w5.cell? ⟨g, off + m, none⟩ = some (.float .f32 y) := by rw [← HY.out]; exact hc m HMS.out
  clear hc x5
  go_wp2
  go_ret2
  exact ⟨_, rfl, HFV.out, X5.out⟩
end Go.Proofs.Ytmgkbgdbahijnaa
