/- Pairs of sieves: plain facts; grids compared; the functions that pair bits. -/
import Derived.Test.YtfolflkbpdbkcaaSog
import Derived.Laws.StructEq
namespace Go.Proofs.Ytfolflkbpdbkcaa
open Go.ChangeShapes Go.WideShapes Go.ChangeAt Go.RowKit
set_option linter.unusedVariables false
/-- bits of both, over a base, of the first k -/
def pairG (f : Bool → Bool → Bool) (xs ys zs : List Bool) : Nat → List Bool
  | 0 => zs
  | k + 1 => (pairG f xs ys zs k).set k (f (xs[k]?.getD false) (ys[k]?.getD false))
theorem pairG_length (f : Bool → Bool → Bool) (xs ys zs : List Bool) : ∀ k, (pairG f xs ys zs k).length = zs.length
  | 0 => rfl
  | k + 1 => by
    show ((pairG f xs ys zs k).set k _).length = _
    rw [List.length_set, pairG_length f xs ys zs k]
theorem pairG_get (f : Bool → Bool → Bool) (xs ys zs : List Bool) : ∀ (k j : Nat), j < zs.length → (pairG f xs ys zs k)[j]?.getD false = if j < k then f (xs[j]?.getD false) (ys[j]?.getD false) else zs[j]?.getD false
  | 0, j, h => rfl
  | k + 1, j, h => by
    show ((pairG f xs ys zs k).set k _)[j]?.getD false = _
    have hl := pairG_length f xs ys zs k
    by_cases hk : k < zs.length
    · rw [getDB_set _ _ _ _ (by omega), pairG_get f xs ys zs k j h]
      by_cases e : j = k
      · subst e; rw [if_pos rfl, if_pos (by omega)]
      · rw [if_neg e]
        by_cases e2 : j < k
        · rw [if_pos e2, if_pos (by omega)]
        · rw [if_neg e2, if_neg (by omega)]
    · rw [List.set_eq_of_length_le (by omega), pairG_get f xs ys zs k j h, if_pos (by omega), if_pos (by omega)]
theorem pairG_end (f : Bool → Bool → Bool) (xs ys zs vs : List Bool) {k : Nat} (h1 : zs.length = k) (h2 : vs.length = k) : pairG f xs ys zs k = pairG f xs ys vs k := by
  have e1 := pairG_length f xs ys zs k
  have e2 := pairG_length f xs ys vs k
  apply List.ext_getElem (by omega)
  intro i hi hi'
  have g1 := pairG_get f xs ys zs k i (by omega)
  have g2 := pairG_get f xs ys vs k i (by omega)
  rw [if_pos (by omega)] at g1 g2
  rw [List.getElem?_eq_getElem hi, Option.getD_some] at g1
  rw [List.getElem?_eq_getElem hi', Option.getD_some] at g2
  rw [g1, g2]
def gridEq (R S n R' S' n' : Int) : Bool := (R == R') && (S == S') && (n == n')
theorem gridEq_is {R S n R' S' n' : Int} (h : gridEq R S n R' S' n' = true) : R = R' ∧ S = S' ∧ n = n' := by
  unfold gridEq at h
  simp only [Bool.and_eq_true, beq_iff_eq] at h
  exact ⟨h.1.1, h.1.2, h.2⟩
def pairB (R S : Int) (xs : List Bool) (R' S' : Int) (ys : List Bool) : Bool := gridB R S xs.length && gridEq R S xs.length R' S' ys.length
def pairR (f : Bool → Bool → Bool) (R S : Int) (xs : List Bool) (R' S' : Int) (ys : List Bool) : SV × Bool := if pairB R S xs R' S' ys then (⟨R, S, pairG f xs ys xs xs.length⟩, true) else (SV.no, false)
theorem pairB_1 {R S R' S' : Int} {xs ys : List Bool} (h : gridB R S xs.length = false) : pairB R S xs R' S' ys = false := by unfold pairB; rw [h]; rfl
theorem pairB_2 {R S R' S' : Int} {xs ys : List Bool} (h : gridB R' S' ys.length = false) : pairB R S xs R' S' ys = false := by
  cases hb : pairB R S xs R' S' ys
  · rfl
  · unfold pairB at hb
    rw [Bool.and_eq_true] at hb
    obtain ⟨h1, h2⟩ := hb
    obtain ⟨rfl, rfl, h3⟩ := gridEq_is h2
    rw [h3, h] at h1
    cases h1
theorem pairB_3 {R S R' S' : Int} {xs ys : List Bool} (h : gridEq R S xs.length R' S' ys.length = false) : pairB R S xs R' S' ys = false := by unfold pairB; rw [h]; simp
theorem pairR_no {f : Bool → Bool → Bool} {R S R' S' : Int} {xs ys : List Bool} (h : pairB R S xs R' S' ys = false) : pairR f R S xs R' S' ys = (SV.no, false) := by unfold pairR; rw [h]; rfl
theorem pairR_y {f : Bool → Bool → Bool} {R S R' S' : Int} {xs ys : List Bool} (h : gridB R S xs.length = true) (h2 : gridEq R S xs.length R' S' ys.length = true) : pairR f R S xs R' S' ys = (⟨R, S, pairG f xs ys xs xs.length⟩, true) := by unfold pairR pairB; rw [h, h2]; rfl
theorem gridEq_1 {R S n R' S' n' : Int} (h : R ≠ R') : gridEq R S n R' S' n' = false := by unfold gridEq; simp [h]
theorem gridEq_2 {R S n R' S' n' : Int} (h : S ≠ S') : gridEq R S n R' S' n' = false := by unfold gridEq; simp [h]
theorem gridEq_3 {R S n R' S' n' : Int} (h : n ≠ n') : gridEq R S n R' S' n' = false := by unfold gridEq; simp [h]
theorem gridEq_y (R S n : Int) : gridEq R S n R S n = true := by unfold gridEq; simp
theorem pairR_le {f : Bool → Bool → Bool} {R S R' S' : Int} {xs ys : List Bool} {rR rS : Int} {rz : List Bool} {rb : Bool} (h : pairR f R S xs R' S' ys = (⟨rR, rS, rz⟩, rb)) : rz.length ≤ 1048576 := by
  unfold pairR at h
  split at h
  · rename_i hc
    unfold pairB at hc
    rw [Bool.and_eq_true] at hc
    obtain ⟨r, m, _, h2, ok⟩ := grid_ok hc.1
    have h5 := ok.n512
    simp only [Prod.mk.injEq, SV.mk.injEq] at h
    rw [← h.1.2.2, pairG_length]; omega
  · simp only [Prod.mk.injEq, SV.no, SV.mk.injEq] at h
    rw [← h.1.2.2]; exact Nat.zero_le _
theorem grid_neq (R S n R' S' n' : Int) (w : World) : (binOp .neq 60 (.agg #[.int .i64 R, .int .i64 S, .int .i64 n]) (.agg #[.int .i64 R', .int .i64 S', .int .i64 n'])).run Try.prog w = .ok (.bool (!gridEq R S n R' S' n')) w := by
  have u3 := Try.underlying2
  have a3 := Try.isAgg2
  have z3 := Try.sizeOf2
  have hS : Try.prog.underlying 60 = some (.struct (Try.prog.fieldsOf 60)) := by kernel_rfl
  have hp : Try.prog.stoodInHeld 60 = false := by kernel_rfl
  rw [run_neq_struct, show (10000 : Nat) = 9999 + 1 from rfl, run_equalIn_agg w 9999 60 _ _ hS hp]
  simp only [Program.fieldsOf, Try.underlying60]
  go_simp
  unfold gridEq
  by_cases h1 : R = R' <;> by_cases h2 : S = S' <;> by_cases h3 : n = n' <;> simp [h1, h2, h3]
theorem grid_guard (x y : Operand) (R S n R' S' n' : Int) (w : World) : (eqGuard .neq 60 x y (.agg #[.int .i64 R, .int .i64 S, .int .i64 n]) (.agg #[.int .i64 R', .int .i64 S', .int .i64 n'])).run Try.prog w = .ok () w :=
  run_eqGuard_agg w .neq 60 x y _ _ (by kernel_rfl)
theorem c_join1 (x y : Bool) (w : World) : Calls Try.prog 70 #[.bool x, .bool y] w fun e w' => e = .returned (.bool (x || y)) ∧ w' = w := by
  cases x <;> cases y <;>
  · go_enter Try.func70, Try.ntmps70
    go_wp2
    go_ret
    exact ⟨rfl, rfl⟩
theorem c_meet1 (x y : Bool) (w : World) : Calls Try.prog 71 #[.bool x, .bool y] w fun e w' => e = .returned (.bool (x && y)) ∧ w' = w := by
  cases x <;> cases y <;>
  · go_enter Try.func71, Try.ntmps71
    go_wp2
    go_ret
    exact ⟨rfl, rfl⟩
set_option maxRecDepth 100000 in
set_option maxHeartbeats 4000000 in
theorem c_pair_join (R S : Int) (a : Option Addr) (n cap : Nat) (xs : List Bool) (R' S' : Int) (b : Option Addr) (n2 cap2 : Nat) (ys : List Bool) (w : World) {V : SV} {v : Bool} (hv : pairR (fun x y => x || y) R S xs R' S' ys = (V, v)) (hm : n ≤ maxLen) (h : Reads w a n (bools xs)) (hm2 : n2 ≤ maxLen) (h2 : Reads w b n2 (bools ys)) :
    Calls Try.prog 69 #[.agg #[.int .i64 R, .int .i64 S, .slice a n cap], .agg #[.int .i64 R', .int .i64 S', .slice b n2 cap2], .func (.func 70) #[] #[]] w (RetKVB 4 V v w) := by
  have hn := h.bool.1
  subst hn
  have hn2 := h2.bool.1
  subst hn2
  have H := Lib.hid h
  have H2 := Lib.hid h2
  have BA := Lib.hid (((Box.alloc w #[.int .i64 R, .int .i64 S, .slice a xs.length cap] 27).past (.cells #[.int .i64 R', .int .i64 S', .slice b ys.length cap2] 27)).past (.cells #[.int .i64 0, .int .i64 0, .slice none 0 0] 27))
  have BB := Lib.hid ((Box.alloc_at (w.alloc (.cells #[.int .i64 R, .int .i64 S, .slice a xs.length cap] 27)) #[.int .i64 R', .int .i64 S', .slice b ys.length cap2] 27 (b := w.heap.size + 1) (by simp)).past (.cells #[.int .i64 0, .int .i64 0, .slice none 0 0] 27))
  have BZ := Lib.hid (Box.alloc_at ((w.alloc (.cells #[.int .i64 R, .int .i64 S, .slice a xs.length cap] 27)).alloc (.cells #[.int .i64 R', .int .i64 S', .slice b ys.length cap2] 27)) #[.int .i64 0, .int .i64 0, .slice none 0 0] 27 (b := w.heap.size + 2) (by simp))
  clear h h2
  cases h1 : gridB R S xs.length
  · rw [pairR_no (pairB_1 h1)] at hv
    simp only [Prod.mk.injEq] at hv
    obtain ⟨rfl, rfl⟩ := hv
    have Q1 := Lib.hid h1
    clear h1
    go_enter Try.func69, Try.ntmps69
    go_wp2_with fail
    first | (go_region_with (first | (go_at_call 18; refine (c_impl_ValidSieve_n R S a xs.length cap _ Q1.out hm).mono ?_; rintro e u1 ⟨rfl, x1⟩; have EA : Ext (((w.alloc (.cells #[.int .i64 R, .int .i64 S, .slice a xs.length cap] 27)).alloc (.cells #[.int .i64 R', .int .i64 S', .slice b ys.length cap2] 27)).alloc (.cells #[.int .i64 0, .int .i64 0, .slice none 0 0] 27)) u1 := Ext.trans (by (repeat (first | assumption | exact Ext.refl _ | (with_reducible refine Ext.stepS ?_ (by first | exact Nat.le_refl _ | (simp; done) | (simp; omega)) _) | (with_reducible refine Ext.stepN ?_ _) | (with_reducible refine Ext.stepD ?_) | (with_reducible refine Ext.stepA ?_ _)))) x1; have EW : Ext w u1 := Ext.trans (by (repeat (first | assumption | exact Ext.refl _ | (with_reducible refine Ext.stepS ?_ (by first | exact Nat.le_refl _ | (simp; done) | (simp; omega)) _) | (with_reducible refine Ext.stepN ?_ _) | (with_reducible refine Ext.stepD ?_) | (with_reducible refine Ext.stepA ?_ _)))) EA; obtain ⟨ka0, ka1, ka2⟩ := (BA.out.on EA).three; obtain ⟨kb0, kb1, kb2⟩ := (BB.out.on EA).three; obtain ⟨kz0, kz1, kz2⟩ := (BZ.out.on EA).three; obtain ⟨kf0, kf1, kf2, kf3⟩ := (BZ.out.on EA).free))) | fail
    all_goals
      go_wp2
      refine bodyPost_ret (v := .tuple #[.agg #[.int .i64 0, .int .i64 0, .slice none 0 0], .bool false]) (by simp [results, Try.results69, go_sem, kz0, kz1, kz2]) rfl ⟨none, 0, rfl, Own.nil _ _ _ _, ?_⟩
      (repeat (first | assumption | exact Ext.refl _ | (with_reducible refine Ext.stepS ?_ (by first | exact Nat.le_refl _ | (simp; done) | (simp; omega)) _) | (with_reducible refine Ext.stepN ?_ _) | (with_reducible refine Ext.stepD ?_) | (with_reducible refine Ext.stepA ?_ _)))
  have Q1 := Lib.hid h1
  have hne := grid_neq R S xs.length R' S' ys.length
  have hng := fun x y => grid_guard x y R S xs.length R' S' ys.length
  cases h3 : gridEq R S xs.length R' S' ys.length
  · rw [pairR_no (pairB_3 h3)] at hv
    simp only [Prod.mk.injEq] at hv
    obtain ⟨rfl, rfl⟩ := hv
    rw [h3] at hne
    clear h1 h3
    go_enter Try.func69, Try.ntmps69
    go_wp2_with fail
    first | (go_region_with (first | (go_at_call 18; refine (c_impl_ValidSieve_n R S a xs.length cap _ Q1.out hm).mono ?_; rintro e u1 ⟨rfl, x1⟩; have EA : Ext (((w.alloc (.cells #[.int .i64 R, .int .i64 S, .slice a xs.length cap] 27)).alloc (.cells #[.int .i64 R', .int .i64 S', .slice b ys.length cap2] 27)).alloc (.cells #[.int .i64 0, .int .i64 0, .slice none 0 0] 27)) u1 := Ext.trans (by (repeat (first | assumption | exact Ext.refl _ | (with_reducible refine Ext.stepS ?_ (by first | exact Nat.le_refl _ | (simp; done) | (simp; omega)) _) | (with_reducible refine Ext.stepN ?_ _) | (with_reducible refine Ext.stepD ?_) | (with_reducible refine Ext.stepA ?_ _)))) x1; have EW : Ext w u1 := Ext.trans (by (repeat (first | assumption | exact Ext.refl _ | (with_reducible refine Ext.stepS ?_ (by first | exact Nat.le_refl _ | (simp; done) | (simp; omega)) _) | (with_reducible refine Ext.stepN ?_ _) | (with_reducible refine Ext.stepD ?_) | (with_reducible refine Ext.stepA ?_ _)))) EA; obtain ⟨ka0, ka1, ka2⟩ := (BA.out.on EA).three; obtain ⟨kb0, kb1, kb2⟩ := (BB.out.on EA).three; obtain ⟨kz0, kz1, kz2⟩ := (BZ.out.on EA).three; obtain ⟨kf0, kf1, kf2, kf3⟩ := (BZ.out.on EA).free) | (go_at_call_of 52 (Value.agg #[.int .i64 R, .int .i64 S, .slice a xs.length cap]); refine (c_impl_gridOfSieve R S a xs.length cap _).mono ?_; rintro e u1 ⟨rfl, x1⟩; have EA : Ext (((w.alloc (.cells #[.int .i64 R, .int .i64 S, .slice a xs.length cap] 27)).alloc (.cells #[.int .i64 R', .int .i64 S', .slice b ys.length cap2] 27)).alloc (.cells #[.int .i64 0, .int .i64 0, .slice none 0 0] 27)) u1 := Ext.trans (by (repeat (first | assumption | exact Ext.refl _ | (with_reducible refine Ext.stepS ?_ (by first | exact Nat.le_refl _ | (simp; done) | (simp; omega)) _) | (with_reducible refine Ext.stepN ?_ _) | (with_reducible refine Ext.stepD ?_) | (with_reducible refine Ext.stepA ?_ _)))) x1; have EW : Ext w u1 := Ext.trans (by (repeat (first | assumption | exact Ext.refl _ | (with_reducible refine Ext.stepS ?_ (by first | exact Nat.le_refl _ | (simp; done) | (simp; omega)) _) | (with_reducible refine Ext.stepN ?_ _) | (with_reducible refine Ext.stepD ?_) | (with_reducible refine Ext.stepA ?_ _)))) EA; obtain ⟨ka0, ka1, ka2⟩ := (BA.out.on EA).three; obtain ⟨kb0, kb1, kb2⟩ := (BB.out.on EA).three; obtain ⟨kz0, kz1, kz2⟩ := (BZ.out.on EA).three; obtain ⟨kf0, kf1, kf2, kf3⟩ := (BZ.out.on EA).free) | (go_at_call_of 52 (Value.agg #[.int .i64 R', .int .i64 S', .slice b ys.length cap2]); refine (c_impl_gridOfSieve R' S' b ys.length cap2 _).mono ?_; rintro e u1 ⟨rfl, x1⟩; have EA : Ext (((w.alloc (.cells #[.int .i64 R, .int .i64 S, .slice a xs.length cap] 27)).alloc (.cells #[.int .i64 R', .int .i64 S', .slice b ys.length cap2] 27)).alloc (.cells #[.int .i64 0, .int .i64 0, .slice none 0 0] 27)) u1 := Ext.trans (by (repeat (first | assumption | exact Ext.refl _ | (with_reducible refine Ext.stepS ?_ (by first | exact Nat.le_refl _ | (simp; done) | (simp; omega)) _) | (with_reducible refine Ext.stepN ?_ _) | (with_reducible refine Ext.stepD ?_) | (with_reducible refine Ext.stepA ?_ _)))) x1; have EW : Ext w u1 := Ext.trans (by (repeat (first | assumption | exact Ext.refl _ | (with_reducible refine Ext.stepS ?_ (by first | exact Nat.le_refl _ | (simp; done) | (simp; omega)) _) | (with_reducible refine Ext.stepN ?_ _) | (with_reducible refine Ext.stepD ?_) | (with_reducible refine Ext.stepA ?_ _)))) EA; obtain ⟨ka0, ka1, ka2⟩ := (BA.out.on EA).three; obtain ⟨kb0, kb1, kb2⟩ := (BB.out.on EA).three; obtain ⟨kz0, kz1, kz2⟩ := (BZ.out.on EA).three; obtain ⟨kf0, kf1, kf2, kf3⟩ := (BZ.out.on EA).free))) | fail
    all_goals
      go_wp2
      refine bodyPost_ret (v := .tuple #[.agg #[.int .i64 0, .int .i64 0, .slice none 0 0], .bool false]) (by simp [results, Try.results69, go_sem, kz0, kz1, kz2]) rfl ⟨none, 0, rfl, Own.nil _ _ _ _, ?_⟩
      (repeat (first | assumption | exact Ext.refl _ | (with_reducible refine Ext.stepS ?_ (by first | exact Nat.le_refl _ | (simp; done) | (simp; omega)) _) | (with_reducible refine Ext.stepN ?_ _) | (with_reducible refine Ext.stepD ?_) | (with_reducible refine Ext.stepA ?_ _)))
  rw [pairR_y h1 h3] at hv
  simp only [Prod.mk.injEq] at hv
  obtain ⟨hv, rfl⟩ := hv
  have HV := Lib.hid hv
  rw [h3] at hne
  have HGE := Lib.hid (gridEq_is h3)
  obtain ⟨r, m, hr1, hm1, ok⟩ := grid_ok h1
  have hn1 : 1 ≤ xs.length := by have := ok.n1; omega
  have hn5 : xs.length ≤ 512 := by have := ok.n512; omega
  clear hv h1 h3 ok hr1 hm1
  go_enter Try.func69, Try.ntmps69
  go_upto_region 1 with fail
  go_cut [20] (fun s20 wx => s20 = .bool false ∧ Ext (((w.alloc (.cells #[.int .i64 R, .int .i64 S, .slice a xs.length cap] 27)).alloc (.cells #[.int .i64 R', .int .i64 S', .slice b ys.length cap2] 27)).alloc (.cells #[.int .i64 0, .int .i64 0, .slice none 0 0] 27)) wx)
  case first =>
    first | (go_region_with (first | (go_at_call 18; refine (c_impl_ValidSieve_n R S a xs.length cap _ Q1.out hm).mono ?_; rintro e u1 ⟨rfl, x1⟩; have EA : Ext (((w.alloc (.cells #[.int .i64 R, .int .i64 S, .slice a xs.length cap] 27)).alloc (.cells #[.int .i64 R', .int .i64 S', .slice b ys.length cap2] 27)).alloc (.cells #[.int .i64 0, .int .i64 0, .slice none 0 0] 27)) u1 := Ext.trans (by (repeat (first | assumption | exact Ext.refl _ | (with_reducible refine Ext.stepS ?_ (by first | exact Nat.le_refl _ | (simp; done) | (simp; omega)) _) | (with_reducible refine Ext.stepN ?_ _) | (with_reducible refine Ext.stepD ?_) | (with_reducible refine Ext.stepA ?_ _)))) x1; have EW : Ext w u1 := Ext.trans (by (repeat (first | assumption | exact Ext.refl _ | (with_reducible refine Ext.stepS ?_ (by first | exact Nat.le_refl _ | (simp; done) | (simp; omega)) _) | (with_reducible refine Ext.stepN ?_ _) | (with_reducible refine Ext.stepD ?_) | (with_reducible refine Ext.stepA ?_ _)))) EA; obtain ⟨ka0, ka1, ka2⟩ := (BA.out.on EA).three; obtain ⟨kb0, kb1, kb2⟩ := (BB.out.on EA).three; obtain ⟨kz0, kz1, kz2⟩ := (BZ.out.on EA).three; obtain ⟨kf0, kf1, kf2, kf3⟩ := (BZ.out.on EA).free) | (go_at_call_of 52 (Value.agg #[.int .i64 R, .int .i64 S, .slice a xs.length cap]); refine (c_impl_gridOfSieve R S a xs.length cap _).mono ?_; rintro e u1 ⟨rfl, x1⟩; have EA : Ext (((w.alloc (.cells #[.int .i64 R, .int .i64 S, .slice a xs.length cap] 27)).alloc (.cells #[.int .i64 R', .int .i64 S', .slice b ys.length cap2] 27)).alloc (.cells #[.int .i64 0, .int .i64 0, .slice none 0 0] 27)) u1 := Ext.trans (by (repeat (first | assumption | exact Ext.refl _ | (with_reducible refine Ext.stepS ?_ (by first | exact Nat.le_refl _ | (simp; done) | (simp; omega)) _) | (with_reducible refine Ext.stepN ?_ _) | (with_reducible refine Ext.stepD ?_) | (with_reducible refine Ext.stepA ?_ _)))) x1; have EW : Ext w u1 := Ext.trans (by (repeat (first | assumption | exact Ext.refl _ | (with_reducible refine Ext.stepS ?_ (by first | exact Nat.le_refl _ | (simp; done) | (simp; omega)) _) | (with_reducible refine Ext.stepN ?_ _) | (with_reducible refine Ext.stepD ?_) | (with_reducible refine Ext.stepA ?_ _)))) EA; obtain ⟨ka0, ka1, ka2⟩ := (BA.out.on EA).three; obtain ⟨kb0, kb1, kb2⟩ := (BB.out.on EA).three; obtain ⟨kz0, kz1, kz2⟩ := (BZ.out.on EA).three; obtain ⟨kf0, kf1, kf2, kf3⟩ := (BZ.out.on EA).free) | (go_at_call_of 52 (Value.agg #[.int .i64 R', .int .i64 S', .slice b ys.length cap2]); refine (c_impl_gridOfSieve R' S' b ys.length cap2 _).mono ?_; rintro e u1 ⟨rfl, x1⟩; have EA : Ext (((w.alloc (.cells #[.int .i64 R, .int .i64 S, .slice a xs.length cap] 27)).alloc (.cells #[.int .i64 R', .int .i64 S', .slice b ys.length cap2] 27)).alloc (.cells #[.int .i64 0, .int .i64 0, .slice none 0 0] 27)) u1 := Ext.trans (by (repeat (first | assumption | exact Ext.refl _ | (with_reducible refine Ext.stepS ?_ (by first | exact Nat.le_refl _ | (simp; done) | (simp; omega)) _) | (with_reducible refine Ext.stepN ?_ _) | (with_reducible refine Ext.stepD ?_) | (with_reducible refine Ext.stepA ?_ _)))) x1; have EW : Ext w u1 := Ext.trans (by (repeat (first | assumption | exact Ext.refl _ | (with_reducible refine Ext.stepS ?_ (by first | exact Nat.le_refl _ | (simp; done) | (simp; omega)) _) | (with_reducible refine Ext.stepN ?_ _) | (with_reducible refine Ext.stepD ?_) | (with_reducible refine Ext.stepA ?_ _)))) EA; obtain ⟨ka0, ka1, ka2⟩ := (BA.out.on EA).three; obtain ⟨kb0, kb1, kb2⟩ := (BB.out.on EA).three; obtain ⟨kz0, kz1, kz2⟩ := (BZ.out.on EA).three; obtain ⟨kf0, kf1, kf2, kf3⟩ := (BZ.out.on EA).free))) | fail
    all_goals
      go_wp2_with fail
      go_meet
      exact ⟨rfl, EA⟩
  case rest =>
    obtain ⟨rfl, x1⟩ := hcut
    have X2 := Lib.hid (show Ext w wc from Ext.trans (by (repeat (first | assumption | exact Ext.refl _ | (with_reducible refine Ext.stepS ?_ (by first | exact Nat.le_refl _ | (simp; done) | (simp; omega)) _) | (with_reducible refine Ext.stepN ?_ _) | (with_reducible refine Ext.stepD ?_) | (with_reducible refine Ext.stepA ?_ _)))) x1)
    have BA2 := Lib.hid (BA.out.on x1)
    have BB2 := Lib.hid (BB.out.on x1)
    have BZ2 := Lib.hid (BZ.out.on x1)
    have HSZ := Lib.hid (show w.heap.size + 3 ≤ wc.heap.size by have h1 := BZ2.out.lt; omega)
    clear x1 hne hng BA BB BZ
    obtain ⟨wa, hwa⟩ : ∃ z, z = wc := ⟨_, rfl⟩; subst hwa
    obtain ⟨a0, a1, a2⟩ := BA2.out.three
    have hmk := run_make_row' (P := Try.prog) 22 4 (.bool false) 1 Try.underlying22 info_bool rfl .i64 .i64 xs.length (by omega) (by omega)
    have hne : w.heap.size ≠ wa.heap.size := by have := HSZ.out; omega
    have hne' : wa.heap.size ≠ w.heap.size := fun h => hne h.symm
    obtain ⟨aa0, aa1, aa2⟩ := (BA2.out.past (.cells #[.int .i64 0, .int .i64 0, .slice none 0 0] 27)).three
    obtain ⟨ab0, ab1, ab2⟩ := (BA2.out.past (.cells (madeCells #[.bool false] xs.length) 4)).three
    obtain ⟨ac0, ac1, ac2⟩ := ((BA2.out.past (.cells #[.int .i64 0, .int .i64 0, .slice none 0 0] 27)).past (.cells (madeCells #[.bool false] xs.length) 4)).three
    obtain ⟨ad0, ad1, ad2⟩ := ((BA2.out.past (.cells (madeCells #[.bool false] xs.length) 4)).past (.cells #[.int .i64 0, .int .i64 0, .slice none 0 0] 27)).three
    go_upto_region 3 with fail
    go_cut [8] (fun s8 wx => ∃ nb g, s8 = .pointer (some ⟨nb, 0, none⟩) ∧ Box wx nb 27 #[.int .i64 R, .int .i64 S, .slice (some ⟨g, 0, none⟩) xs.length xs.length] ∧ wa.heap.size ≤ g ∧ nb ≠ g ∧ wa.heap.size ≤ nb ∧ wx.rowIs g 4 xs.length (fun _ => .bool false) ∧ Ext wa wx)
    case first =>
      go_region
      all_goals
        go_wp2_with fail
        go_meet
        first
          | exact ⟨wa.heap.size + 1, wa.heap.size, rfl, (Box.alloc_at (wa.alloc (.cells (madeCells #[.bool false] xs.length) 4)) _ _ (b := wa.heap.size + 1) (by simp)).on (Ext.drew _), Nat.le_refl _, by omega, by omega, rowIs_on (World.rowIs_made wa (.bool false) xs.length 4) ((Ext.alloc _ _).trans (Ext.drew _)), by (repeat (first | assumption | exact Ext.refl _ | (with_reducible refine Ext.stepS ?_ (by first | exact Nat.le_refl _ | (simp; done) | (simp; omega)) _) | (with_reducible refine Ext.stepN ?_ _) | (with_reducible refine Ext.stepD ?_) | (with_reducible refine Ext.stepA ?_ _)))⟩
          | exact ⟨wa.heap.size, wa.heap.size + 1, rfl, ((Box.alloc wa _ _).past _).on (Ext.drew _), by omega, by omega, Nat.le_refl _, (by have q := World.rowIs_made (wa.alloc (.cells #[.int .i64 R, .int .i64 S, .slice (some ⟨wa.heap.size + 1, 0, none⟩) xs.length xs.length] 27)) (.bool false) xs.length 4; rw [show (wa.alloc (.cells #[.int .i64 R, .int .i64 S, .slice (some ⟨wa.heap.size + 1, 0, none⟩) xs.length xs.length] 27)).heap.size = wa.heap.size + 1 by simp] at q; exact rowIs_on q (Ext.drew _)), by (repeat (first | assumption | exact Ext.refl _ | (with_reducible refine Ext.stepS ?_ (by first | exact Nat.le_refl _ | (simp; done) | (simp; omega)) _) | (with_reducible refine Ext.stepN ?_ _) | (with_reducible refine Ext.stepD ?_) | (with_reducible refine Ext.stepA ?_ _)))⟩
    case rest =>
      obtain ⟨nb, g, rfl, hnb, hg, hng, hnw, hrow, hext⟩ := hcut
      have HNB := Lib.hid hnb
      have HRW := Lib.hid hrow
      have HEX := Lib.hid hext
      have HNG := Lib.hid hng
      have HG := Lib.hid hg
      have HNW := Lib.hid hnw
      clear hnb hrow hext a0 a1 a2 aa0 aa1 aa2 ab0 ab1 ab2 ac0 ac1 ac2 ad0 ad1 ad2 hng hg hnw hne hne' hmk
      obtain ⟨a0, a1, a2⟩ := (BA2.out.on HEX.out).three
      go_wp2_with fail
      go_loopw [34] (fun i wr => ∃ k : Nat, k ≤ xs.length ∧ i = .int .i64 k ∧ wr.rowIs g 4 xs.length (rowB (pairG (fun x y => x || y) xs ys (List.replicate xs.length false) k) (fun _ => .bool false)) ∧ Touch g (g + 1) wc wr) (fun i _ => xs.length - (intOf i).toNat)
      case atStart => exact ⟨0, Nat.zero_le _, rfl, HRW.out.congr (fun i hi => by unfold rowB pairG; rw [if_pos (by simpa using hi)]; simp [hi]), Touch.refl _ _ _⟩
      case round =>
        obtain ⟨k, hk, rfl, hrow, ht⟩ := hrel
        have HRR := Lib.hid hrow
        have HT := Lib.hid ht
        have HBB := Lib.hid (HNB.out.beside ht (by have := HNG.out; omega))
        have HX := Lib.hid (show Ext wa wr from Touch.ext HEX.out ht HG.out)
        clear hrow ht a0 a1 a2
        by_cases hlt : k < xs.length
        · obtain ⟨pb, po, rfl, hpc⟩ : ∃ b' off, b = some ⟨b', off, none⟩ ∧ wr.cell? ⟨b', off + k, none⟩ = some (.bool (ys[k]?.getD false)) := by
            obtain ⟨_, hq⟩ := (H2.out.on (X2.out.trans HX.out)).bool
            rcases hq with h0 | ⟨b', off', rfl, hq⟩
            · have := HGE.out.2.2; omega
            · exact ⟨b', off', rfl, hq k (by have := HGE.out.2.2; omega)⟩
          obtain ⟨ab, ao, rfl, hac⟩ : ∃ b' off, a = some ⟨b', off, none⟩ ∧ wr.cell? ⟨b', off + k, none⟩ = some (.bool (xs[k]?.getD false)) := by
            obtain ⟨_, hq⟩ := (H.out.on (X2.out.trans HX.out)).bool
            rcases hq with h0 | ⟨b', off', rfl, hq⟩
            · omega
            · exact ⟨b', off', rfl, hq k hlt⟩
          have hlen : (pairG (fun x y => x || y) xs ys (List.replicate xs.length false) k).length = xs.length := by rw [pairG_length]; simp
          have hgc := HRR.out.cell (i := k) hlt
          rw [rowB_at (by rw [hlen]; exact hlt)] at hgc
          have hgf := HRR.out.frozen k
          obtain ⟨x, hx⟩ : ∃ x, xs[k]?.getD false = x := ⟨_, rfl⟩
          obtain ⟨y, hy⟩ : ∃ y, ys[k]?.getD false = y := ⟨_, rfl⟩
          have HS := Lib.hid (show (wr.setCell ⟨g, k, none⟩ (.bool (x || y))).rowIs g 4 xs.length (rowB (pairG (fun x y => x || y) xs ys (List.replicate xs.length false) (k + 1)) (fun _ => .bool false)) from by
            have := rowB_set HRR.out (k := k) (by rw [hlen]; exact hlt) (x || y)
            show World.rowIs _ _ _ _ (rowB ((pairG (fun x y => x || y) xs ys (List.replicate xs.length false) k).set k (xs[k]?.getD false || ys[k]?.getD false)) _)
            rw [hx, hy]
            exact this)
          obtain ⟨n0, n1, n2⟩ := HBB.out.three
          obtain ⟨b0, b1, b2⟩ := (BB2.out.on HX.out).three
          rw [hx] at hac
          rw [hy] at hpc
          have hkl : (k : Int) < (xs.length : Int) := by omega
          have hkl2 : (k : Int) < (ys.length : Int) := by have := HGE.out.2.2; omega
          have hk0 : (0 : Int) ≤ (k : Int) := by omega
          clear hx hy hlen
          go_wp2_with fail
          first | (go_region_with (first | (go_at_call 70; refine (c_join1 x y _).mono ?_; rintro e w' ⟨rfl, rfl⟩))) | fail
          all_goals
            go_wp2
            go_roundw
            case rel => exact ⟨k + 1, by omega, by go_num, HS.out, (HT.out.of_drew _).one _ _⟩
            case measure => simp [intOf]; omega
        · obtain rfl : k = xs.length := by omega
          obtain ⟨NZ, hNZ⟩ : ∃ z, pairG (fun x y => x || y) xs ys (List.replicate xs.length false) xs.length = z := ⟨_, rfl⟩
          have hNL : NZ.length = xs.length := by rw [← hNZ, pairG_length]; simp
          have HVV := Lib.hid (show V = ⟨R, S, NZ⟩ by rw [← hNZ, pairG_end _ xs ys (List.replicate xs.length false) xs (by simp) rfl]; exact HV.out.symm)
          have HRN := Lib.hid (show wr.rowIs g 4 xs.length (rowB NZ (fun _ => .bool false)) by rw [← hNZ]; exact HRR.out)
          have HON := Lib.hid (own_rowB (lo := wa.heap.size) (by omega) HG.out HRN.out)
          have HZN := Lib.hid (BZ2.out.on HX.out)
          have HEW := Lib.hid (X2.out.trans HX.out)
          have HNL := Lib.hid hNL
          obtain ⟨n0, n1, n2⟩ := HBB.out.three
          obtain ⟨z0, z1, z2⟩ := HZN.out.three
          obtain ⟨y0, y1, y2, y3⟩ := HZN.out.free
          have hnbz : w.heap.size + 2 ≠ nb := by have := HSZ.out; have := HNW.out; omega
          have hnbz' : nb ≠ w.heap.size + 2 := fun h => hnbz h.symm
          clear hNZ hNL
          go_wp2
          refine bodyPost_ret (v := .tuple #[.agg #[.int .i64 R, .int .i64 S, .slice (some ⟨g, 0, none⟩) xs.length xs.length], .bool true]) (by simp [results, Try.results69, go_sem, z0, z1, z2]) rfl ⟨some ⟨g, 0, none⟩, xs.length, by rw [HVV.out, HNL.out], ?_, ?_⟩
          · rw [HVV.out]
            refine own_touch HON.out (lo' := w.heap.size + 2) (hi' := w.heap.size + 3) ?_ (by have := HSZ.out; omega) (by have := HSZ.out; have := HX.out.size; simp; omega) (Nat.le_refl _)
            (repeat (first | assumption | exact Touch.refl _ _ _ | (with_reducible refine Touch.stepS ?_ (by first | exact Nat.le_refl _ | (simp; done) | (simp; omega)) (by first | (simp; done) | (simp; omega)) _) | (with_reducible refine Touch.stepN ?_ _) | (with_reducible refine Touch.stepA ?_ _)))
          · have HEW' := HEW.out
            (repeat (first | assumption | exact Ext.refl _ | (with_reducible refine Ext.stepS ?_ (by first | exact Nat.le_refl _ | (simp; done) | (simp; omega)) _) | (with_reducible refine Ext.stepN ?_ _) | (with_reducible refine Ext.stepD ?_) | (with_reducible refine Ext.stepA ?_ _)))
end Go.Proofs.Ytfolflkbpdbkcaa
