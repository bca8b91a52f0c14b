/- SmoothStream: both sides. -/
import Derived.Test.YtfbapbgiegploaaFar
import Derived.Test.YtfbapbgiegploaaAsc
import Derived.Test.YtfbapbgiegploaaCep
import Derived.Test.YtfbapbgiegploaaRow
import Derived.Test.YtfbapbgiegploaaPlb
import Derived.Deep.RegionHeld3
import Derived.Deep.DeepCutAuto
import Derived.Deep.LoopGhost
namespace Go.Proofs.Ytfbapbgiegploaa
open Go.ChangeShapes Go.WideShapes Go.ChangeAt Go.RowKit Go.Proofs.Ytfbapbgiegploaa.Flo
set_option linter.unusedVariables false
attribute [local go_sem] unary_neg_float run_store_float run_store_complex
theorem retB_s {a b : Bool} (h : a = b) : Ending.returned (.bool a) = Ending.returned (.bool b) := by rw [h]
theorem fv_isS {k : FloatKind} {b r : Nat} (h : fv k b = some r) : b = r := by
  unfold fv at h; split at h
  · cases h
  · exact Option.some.inj h
theorem fin_fvS {b : Nat} (h : isFin .f32 b = true) : fv .f32 b = some b := by
  obtain ⟨s, m, e, hd⟩ := isFin_number h
  exact fv_some (by rw [hd]; rfl)
def finV (v : Option Nat) : Bool := match v with
  | some b => isFin .f32 b
  | none => false
theorem finV_fv (b : Nat) : finV (fv .f32 b) = isFin .f32 b := by
  rcases fv_cases .f32 b with ⟨h, hf⟩ | ⟨h, hf⟩
  · rw [hf, isFin_iff, h]; rfl
  · rw [hf]; rfl
theorem finV_some {v : Option Nat} (h : finV v = true) : ∃ b, v = some b ∧ isFin .f32 b = true := by
  cases v with
  | none => cases h
  | some b => exact ⟨b, rfl, h⟩
def smN (zs : List Nat) (sh : Nat) : Nat → Option Nat
  | 0 => fv .f32 (getN zs 0)
  | i + 1 => fop .add .f32 (smN zs sh i) (fop .mul .f32 (fv .f32 sh) (fop .sub .f32 (fv .f32 (getN zs (i + 1))) (smN zs sh i)))
def stB (zs : List Nat) : Bool := decide (1 ≤ zs.length) && (decide (zs.length ≤ 128) && finB zs)
def smB (zs : List Nat) (sh : Nat) : Bool := stB zs && shareB sh
def smA (zs : List Nat) (sh : Nat) : Bool := allTo zs.length fun i => finV (smN zs sh i)
def smL (zs : List Nat) (sh : Nat) : List Nat := (List.range zs.length).map fun i => (smN zs sh i).getD 0
def smR (zs : List Nat) (sh : Nat) : List Nat × Bool := if smB zs sh && smA zs sh then (smL zs sh, true) else ([], false)
theorem smR_yes {zs : List Nat} {sh : Nat} (h : smB zs sh = true) (h2 : smA zs sh = true) : smR zs sh = (smL zs sh, true) := if_pos (by rw [h, h2]; rfl)
theorem smR_no {zs : List Nat} {sh : Nat} (h : (smB zs sh && smA zs sh) = false) : smR zs sh = ([], false) := if_neg (by rw [h]; decide)
theorem smL_length (zs : List Nat) (sh : Nat) : (smL zs sh).length = zs.length := by simp [smL]
theorem smL_get (zs : List Nat) (sh i : Nat) (h : i < zs.length) : (smL zs sh)[i]? = some ((smN zs sh i).getD 0) := by simp [smL, h]
theorem smL_take (zs : List Nat) (sh k : Nat) (h : k < zs.length) : flos ((smL zs sh).take (k + 1)) = flos ((smL zs sh).take k) ++ [.float .f32 ((smN zs sh k).getD 0)] := by
  have hl := smL_length zs sh
  have hg := smL_get zs sh k h
  rw [List.getElem?_eq_getElem (by omega)] at hg
  unfold flos
  rw [List.take_succ_eq_append_getElem (by omega), List.map_append, Option.some.inj hg]
  rfl
structure StOk (zs : List Nat) : Prop where
  lo : 1 ≤ zs.length
  hi : zs.length ≤ 128
  fin : finB zs = true
theorem st_ok {zs : List Nat} (h : stB zs = true) : StOk zs := by
  unfold stB at h
  simp only [Bool.and_eq_true, decide_eq_true_eq] at h
  exact ⟨h.1, h.2.1, h.2.2⟩
theorem smR_le {zs : List Nat} {sh : Nat} {c : List Nat} {b : Bool} (h : smR zs sh = (c, b)) : c.length ≤ 1048576 := by
  cases hs : (smB zs sh && smA zs sh)
  · rw [smR_no hs] at h; simp only [Prod.mk.injEq] at h; obtain ⟨rfl, rfl⟩ := h; exact Nat.zero_le _
  · rw [Bool.and_eq_true] at hs
    rw [smR_yes hs.1 hs.2] at h; simp only [Prod.mk.injEq] at h; obtain ⟨rfl, rfl⟩ := h
    rw [smL_length]
    have := hs.1
    unfold smB at this
    rw [Bool.and_eq_true] at this
    have := (st_ok this.1).hi
    omega
theorem smA_no {zs : List Nat} {sh k : Nat} (hk : k < zs.length) (h : finV (smN zs sh k) = false) : smR zs sh = ([], false) := smR_no (by rw [show smA zs sh = false from allTo_no hk h]; simp)
theorem own_litS (w : World) (x : Value) (e : TypeId) (base : Nat) (hb : base ≤ w.heap.size) : (w.alloc (.cells #[x] e)).ownsRow base e 1 (.slice (some ⟨w.heap.size, 0, none⟩) 1 1) 1 [x] :=
  ⟨rfl, .inr ⟨w.heap.size, 1, #[x], rfl, hb, heap_alloc_new w _, Nat.le_refl _, by unfold maxLen; omega, rfl, rfl⟩⟩
theorem lit_step {w wr w1 : World} {o : Obj} (hext : Ext w wr) (hg : (wr.alloc o).grownBy w1 (some wr.heap.size)) : Ext w w1 :=
  (Below.alloc hext hext.size o).grown hg (by have := hext.size; simp; omega) (fun j hj => by cases hj; exact hext.size)
theorem ownsRow_onS {w w' : World} {base : Nat} {t : TypeId} {v : Value} {n : Nat} {xs : List Value} (h : w.ownsRow base t 1 v n xs) (e : Ext w w') : w'.ownsRow base t 1 v n xs := by
  refine ⟨h.1, ?_⟩
  rcases h.2 with h0 | ⟨g, cap, cur, rfl, hb, hg, hn, hm, hs, ht⟩
  · exact .inl h0
  · exact .inr ⟨g, cap, cur, rfl, hb, by rw [Below.block e g (Array.getElem?_eq_some_iff.1 hg).1]; exact hg, hn, hm, hs, ht⟩
theorem c_impl_share_s (x : Nat) (w : World) {r : Bool} (h : shareB x = r) : Calls Try.prog 115 #[.float .f32 x] w fun e w' => e = .returned (.bool r) ∧ w = w' := by
  cases h1 : (FloatKind.f32.format.order x 0 == some .gt || FloatKind.f32.format.order x 0 == some .eq)
  · have H := Lib.hid (show r = false by rw [← h]; exact shareB_1 h1)
    clear h
    go_enter Try.func115, Try.ntmps115
    go_wp2
    go_ret
    exact ⟨by rw [H.out]; rfl, rfl⟩
  · rw [shareB_2 h1] at h
    cases h2 : (FloatKind.f32.format.order x 1065353216 == some .lt || FloatKind.f32.format.order x 1065353216 == some .eq)
    all_goals
      rw [h2] at h
      have H := Lib.hid h.symm
      clear h
      go_enter Try.func115, Try.ntmps115
      go_wp2
      go_ret
      exact ⟨by rw [H.out]; rfl, rfl⟩
theorem c_spec_share_s (x : Nat) (w : World) {r : Bool} (h : shareB x = r) : Calls Try.prog 187 #[.float .f32 x] w fun e w' => e = .returned (.bool r) ∧ w = w' := by
  cases h1 : (FloatKind.f32.format.order x 0 == some .gt || FloatKind.f32.format.order x 0 == some .eq)
  · have H := Lib.hid (show r = false by rw [← h]; exact shareB_1 h1)
    clear h
    go_enter Try.func187, Try.ntmps187
    go_wp2
    go_ret
    exact ⟨by rw [H.out]; rfl, rfl⟩
  · rw [shareB_2 h1] at h
    cases h2 : (FloatKind.f32.format.order x 1065353216 == some .lt || FloatKind.f32.format.order x 1065353216 == some .eq)
    all_goals
      rw [h2] at h
      have H := Lib.hid h.symm
      clear h
      go_enter Try.func187, Try.ntmps187
      go_wp2
      go_ret
      exact ⟨by rw [H.out]; rfl, rfl⟩
theorem c_impl_isStreamSize (n : Int) (w : World) {b : Bool} (h : inB 1 n 128 = b) : Calls Try.prog 111 #[.int .i64 n] w fun e w' => e = .returned (.bool b) ∧ w = w' := by
  by_cases h0 : n < 1
  · have H := Lib.hid (show b = false by rw [← h]; exact inB_no (by omega))
    clear h
    go_enter Try.func111, Try.ntmps111
    go_wp2
    go_ret
    exact ⟨retB_s (by first | (rw [H.out]; done) | (rw [H.out]; rfl) | (rw [H.out]; simp; done) | (rw [H.out]; simp; omega)), rfl⟩
  have h0' : 1 ≤ n := by omega
  by_cases h1 : n ≤ 128
  · have H := Lib.hid (show b = true by rw [← h]; exact inB_yes h0' h1)
    clear h
    go_enter Try.func111, Try.ntmps111
    go_wp2
    go_ret
    exact ⟨retB_s (by first | (rw [H.out]; done) | (rw [H.out]; rfl) | (rw [H.out]; simp; done) | (rw [H.out]; simp; omega)), rfl⟩
  · have H := Lib.hid (show b = false by rw [← h]; exact inB_no (by omega))
    clear h
    go_enter Try.func111, Try.ntmps111
    go_wp2
    go_ret
    exact ⟨retB_s (by first | (rw [H.out]; done) | (rw [H.out]; rfl) | (rw [H.out]; simp; done) | (rw [H.out]; simp; omega)), rfl⟩
theorem c_impl_isStream (a : Option Addr) (n cap : Nat) (zs : List Nat) (w : World) {r : Bool} (hr : stB zs = r) (hm : n ≤ 1048576) (h : Reads w a n (flos zs)) (hb : ∀ z ∈ zs, z < 4294967296) :
    Calls Try.prog 110 #[.slice a n cap] w fun e w' => e = .returned (.bool r) ∧ ∃ q, w' = w.drewN q := by
  have hz := h.flo.1
  have H := Lib.hid h
  have HB := Lib.hid hb
  have HM := Lib.hid (show n ≤ maxLen by unfold maxLen; omega)
  have hm' : (n : Int) ≤ 1048576 := by omega
  clear h hb
  cases hs : inB 1 (n : Int) 128
  · have HS := Lib.hid hs
    have HR := Lib.hid (show r = false by
      rw [← hr]
      cases q : stB zs
      · rfl
      · have ok := st_ok q
        rw [inB_yes (by have := ok.lo; omega) (by have := ok.hi; omega)] at hs; cases hs)
    clear hs hr hz
    go_enter Try.func110, Try.ntmps110
    go_wp2_with (go_at_call 111; refine (c_impl_isStreamSize _ _ HS.out).mono ?_; rintro e w' ⟨rfl, rfl⟩)
    go_ret
    exact ⟨retB_s (by rw [HR.out]), 0, rfl⟩
  · have HS := Lib.hid hs
    have hs2 : (1 : Int) ≤ (n : Int) ∧ (n : Int) ≤ 128 := of_decide_eq_true hs
    have HR := Lib.hid (show finB zs = r by rw [← hr]; unfold stB; rw [hz, decide_eq_true (show 1 ≤ n by omega), decide_eq_true (show n ≤ 128 by omega)]; rfl)
    clear hs hs2 hr hz
    go_enter Try.func110, Try.ntmps110
    go_wp2_with (first | (go_at_call 111; refine (c_impl_isStreamSize _ _ HS.out).mono ?_; rintro e w' ⟨rfl, rfl⟩) | (go_at_call 165; refine (c_impl_areFinite _ _ _ zs _ HR.out HM.out HB.out H.out).mono ?_; rintro e w' ⟨rfl, q, rfl⟩))
    go_ret
    exact ⟨rfl, _, rfl⟩
theorem upon_flB {P : Program} {o : Oper} {K : Act → World → Prop} {Q' : Exit → Act → World → Prop} {a : Act} {w : World} {op : BinOp} {t : TypeId} {k : FloatKind} {u v : Nat}
    (hop : isArith op = true)
    (h : ∀ r n, Hid (fv k r = fop op k (fv k u) (fv k v) ∧ r < 2 ^ k.format.width) → Oper.upon P o a K Q' (Result.ok (Next.value (.float k r)) (w.drewN n))) :
    Oper.upon P o a K Q' (((binOp op t (.float k u) (.float k v)).run P w).andThen fun a w' => Result.ok (Next.value a) w') := by
  rw [run_fl_of (P := P) w t k u v op (isArith_or hop)]
  exact h _ _ (Lib.hid ⟨fv_flR w op k u v, flR_lt w op k u v⟩)
def smF (B : Nat → Nat) (k : Nat) (i : Nat) : Value := if i ≤ k then .float .f32 (B i) else .float .f32 0
theorem smF_step (B : Nat → Nat) (k g : Nat) {w : World} {b c : Nat} {t : TypeId} (h : w.rowIs b t c (smF B k)) : (w.setCell ⟨b, k + 1, none⟩ (.float .f32 g)).rowIs b t c (smF (fun j => if j = k + 1 then g else B j) (k + 1)) := by
  refine (h.set (k + 1) _).congr fun i hi => ?_
  unfold smF
  by_cases e : i = k + 1
  · subst e; rw [if_pos rfl, if_pos (Nat.le_refl _)]; simp
  · rw [if_neg e]
    by_cases e2 : i ≤ k
    · rw [if_pos e2, if_pos (by omega)]; simp [e]
    · rw [if_neg e2, if_neg (by omega)]
theorem smF_start (x0 : Nat) {w : World} {b c : Nat} {t : TypeId} (h : w.rowIs b t c (fun _ => .float .f32 0)) : (w.setCell ⟨b, 0, none⟩ (.float .f32 x0)).rowIs b t c (smF (fun _ => x0) 0) := by
  refine (h.set 0 _).congr fun i hi => ?_
  unfold smF
  by_cases e : i = 0
  · subst e; rw [if_pos rfl, if_pos (Nat.le_refl _)]
  · rw [if_neg e, if_neg (by omega)]
def bitsOfN (B : Nat → Nat) (n : Nat) : List Nat := (List.range n).map B
theorem bitsOfN_length (B : Nat → Nat) (n : Nat) : (bitsOfN B n).length = n := by simp [bitsOfN]
theorem bitsOfN_get (B : Nat → Nat) (n i : Nat) (h : i < n) : (bitsOfN B n)[i]? = some (B i) := by simp [bitsOfN, h]
theorem bitsOfN_lt {B : Nat → Nat} {n : Nat} (h : ∀ j, j < n → B j < 4294967296) : ∀ z ∈ bitsOfN B n, z < 4294967296 := by
  intro z hz
  obtain ⟨i, hi, rfl⟩ := List.mem_map.1 hz
  exact h i (List.mem_range.1 hi)
theorem smo_end {zs : List Nat} {sh n : Nat} {B : Nat → Nat} (hz : zs.length = n) (hs : smB zs sh = true) (h : ∀ j, j < n → fv .f32 (B j) = smN zs sh j) :
    (finB (bitsOfN B n) = true ∧ smR zs sh = (bitsOfN B n, true)) ∨ (finB (bitsOfN B n) = false ∧ smR zs sh = ([], false)) := by
  have hl := bitsOfN_length B n
  cases hf : finB (bitsOfN B n)
  · right
    refine ⟨rfl, ?_⟩
    have : ∃ j, j < n ∧ isFin .f32 (B j) = false := by
      apply Classical.byContradiction
      intro hn
      have : finB (bitsOfN B n) = true := finB_mk fun i hi => by
        rw [hl] at hi
        rw [bitsOfN_get B n i hi]
        cases q : isFin .f32 (B i)
        · exact absurd ⟨i, hi, q⟩ hn
        · exact q
      rw [this] at hf; cases hf
    obtain ⟨j, hj, hq⟩ := this
    exact smA_no (k := j) (by rw [hz]; exact hj) (by rw [← h j hj, finV_fv]; exact hq)
  · left
    have hfin : ∀ j, j < n → isFin .f32 (B j) = true := fun j hj => by
      have := finB_at hf (i := j) (by rw [hl]; exact hj)
      rw [bitsOfN_get B n j hj] at this
      exact this
    have hall : smA zs sh = true := allTo_yes fun j hj => by rw [← h j (by omega), finV_fv]; exact hfin j (by omega)
    refine ⟨rfl, ?_⟩
    rw [smR_yes hs hall]
    have : smL zs sh = bitsOfN B n := by
      unfold smL bitsOfN
      rw [hz]
      refine List.map_congr_left fun j hj => ?_
      have hj' := List.mem_range.1 hj
      rw [← h j hj', fin_fvS (hfin j hj')]; rfl
    rw [this]
theorem c_impl_streamIf_yes (a : Option Addr) (n cap : Nat) (zs : List Nat) (w : World) (hr : finB zs = true) (hm : n ≤ maxLen) (hb : ∀ z ∈ zs, z < 4294967296) (h : Reads w a n (flos zs)) :
    Calls Try.prog 112 #[.slice a n cap] w fun e w' => e = .returned (.tuple #[.slice a n cap, .bool true]) ∧ ∃ q, w' = w.drewN q := by
  have HR := Lib.hid hr
  have H := Lib.hid h
  have HB := Lib.hid hb
  clear hr h hb
  go_enter Try.func112, Try.ntmps112
  go_wp2_with (go_at_call 165; refine (c_impl_areFinite _ _ _ zs _ HR.out hm HB.out H.out).mono ?_; rintro e w' ⟨rfl, q, rfl⟩)
  go_ret2
  exact ⟨rfl, _, rfl⟩
theorem c_impl_streamIf_no (a : Option Addr) (n cap : Nat) (zs : List Nat) (w : World) (hr : finB zs = false) (hm : n ≤ maxLen) (hb : ∀ z ∈ zs, z < 4294967296) (h : Reads w a n (flos zs)) :
    Calls Try.prog 112 #[.slice a n cap] w fun e w' => e = .returned (.tuple #[.slice none 0 0, .bool false]) ∧ ∃ q, w' = w.drewN q := by
  have HR := Lib.hid hr
  have H := Lib.hid h
  have HB := Lib.hid hb
  clear hr h hb
  go_enter Try.func112, Try.ntmps112
  go_wp2_with (go_at_call 165; refine (c_impl_areFinite _ _ _ zs _ HR.out hm HB.out H.out).mono ?_; rintro e w' ⟨rfl, q, rfl⟩)
  go_ret2
  exact ⟨rfl, _, rfl⟩
set_option maxRecDepth 100000 in
set_option maxHeartbeats 8000000 in
theorem c_impl_SmoothStream (a : Option Addr) (n cap : Nat) (zs : List Nat) (sh : Nat) (w : World) {rz : List Nat} {rb : Bool} (hv : smR zs sh = (rz, rb)) (hm : n ≤ 1048576) (h : Reads w a n (flos zs)) (hb : ∀ z ∈ zs, z < 4294967296) (hsh : sh < 4294967296) (hcap : n ≤ cap) :
    Calls Try.prog 23 #[.slice a n cap, .float .f32 sh] w (RetSB 28 rz.length (flos rz) rb w) := by
  have hz := h.flo.1
  have H := Lib.hid h
  have HM := Lib.hid hm
  have HB := Lib.hid hb
  have hm' : (n : Int) ≤ 1048576 := by omega
  cases hs : stB zs
  · rw [smR_no (by unfold smB; rw [hs]; rfl)] at hv
    simp only [Prod.mk.injEq] at hv
    obtain ⟨rfl, rfl⟩ := hv
    have HS := Lib.hid hs
    clear h hs hz hb
    go_enter Try.func23, Try.ntmps23
    go_wp2_with (go_at_call 110; refine (c_impl_isStream _ _ _ zs _ HS.out HM.out H.out HB.out).mono ?_; rintro e w' ⟨rfl, q, rfl⟩)
    go_ret2
    exact ⟨none, 0, rfl, Own.nil _ _ _ _, Ext.drewN _ _⟩
  have HS := Lib.hid hs
  have ok := st_ok hs
  cases hq : shareB sh
  · rw [smR_no (by unfold smB; rw [hq]; simp)] at hv
    simp only [Prod.mk.injEq] at hv
    obtain ⟨rfl, rfl⟩ := hv
    have HQ := Lib.hid hq
    clear h hs hz hb hq ok
    go_enter Try.func23, Try.ntmps23
    go_wp2_with (first | (go_at_call 110; refine (c_impl_isStream _ _ _ zs _ HS.out HM.out H.out HB.out).mono ?_; rintro e w' ⟨rfl, q, rfl⟩) | (go_at_call 115; refine (c_impl_share_s sh _ HQ.out).mono ?_; rintro e w2 ⟨rfl, rfl⟩))
    go_ret2
    exact ⟨none, 0, rfl, Own.nil _ _ _ _, Ext.drewN _ _⟩
  have HQ := Lib.hid hq
  have HSB := Lib.hid (show smB zs sh = true by unfold smB; rw [hs, hq]; rfl)
  have n1 : 1 ≤ n := by have := ok.lo; omega
  have n2 : n ≤ 128 := by have := ok.hi; omega
  rcases h.flo.2 with h0 | ⟨b, off, rfl, hc⟩
  · omega
  have HC := Lib.hid (show ∀ i, i < n → w.cell? ⟨b, off + i, none⟩ = some (.float .f32 (getN zs i)) from hc)
  have HF0 := Lib.hid (finB_at ok.fin (i := 0) (by omega))
  have HZ := Lib.hid hz
  have HV := Lib.hid hv
  obtain ⟨x0, hx0⟩ : ∃ x0, getN zs 0 = x0 := ⟨_, rfl⟩
  have HX0 := Lib.hid hx0
  have HX32 := Lib.hid (show x0 < 4294967296 by rw [← hx0]; exact bits_at hb (i := 0) (by omega) rfl)
  have c0 : ∀ q, (w.drewN q).cell? ⟨b, off, none⟩ = some (.float .f32 x0) := fun q => Ext.some (Ext.drewN w q) (by have := HC.out 0 (by omega); rw [hx0] at this; exact this)
  have C0 := Lib.hid c0
  obtain ⟨m, rfl⟩ : ∃ m, n = m + 1 := ⟨n - 1, by omega⟩
  obtain ⟨c, rfl⟩ : ∃ c, cap = c + 1 := ⟨cap - 1, by omega⟩
  have hmk := run_make_row' (P := Try.prog) 27 28 (.float .f32 0) 4 Try.underlying27 info_f32 rfl .i64 .i64 (m + 1) (by omega) (by omega)
  rw [show (((m + 1 : Nat)) : Int) = (m : Int) + 1 by omega] at hmk
  have hmc : m ≤ c := by omega
  have hmc' : (m : Int) ≤ (c : Int) := by omega
  have hm128 : (m : Int) + 1 ≤ 128 := by omega
  have m0' : (0 : Int) ≤ (m : Int) := by omega
  clear h hs hz hb hq ok hc hv hx0 c0
  by_cases hc0 : c = 0
  · subst hc0
    have HM0 := Lib.hid (show m = 0 by omega)
    clear hmc hmc' hcap
    go_enter Try.func23, Try.ntmps23
    go_wp2_with fail
    refine (c_impl_isStream (some ⟨b, off, none⟩) (m + 1) (1) zs _ HS.out HM.out H.out HB.out).mono ?_; rintro e w' ⟨rfl, q, rfl⟩
    go_wp2_with fail
    refine (c_impl_share_s sh _ HQ.out).mono ?_; rintro e w2 ⟨rfl, rfl⟩
    obtain ⟨u, hu⟩ : ∃ u, w.drewN q = u := ⟨_, rfl⟩
    have XU := Lib.hid (show Ext w u by rw [← hu]; exact Ext.drewN _ _)
    have cu : u.cell? ⟨b, off, none⟩ = some (.float .f32 x0) := by rw [← hu]; exact C0.out q
    rw [hu]
    clear hu
    go_upto_region 3 with fail
    go_cut [6, 7] (fun s6 s7 wx => ∃ g, s6 = .slice (some ⟨g, 0, none⟩) (m + 1) (m + 1) ∧ s7 = .float .f32 x0 ∧ wx.rowIs g 28 (m + 1) (fun _ => .float .f32 0) ∧ u.heap.size ≤ g ∧ Ext u wx)
    case first =>
      first | (go_region_held3 (fun w' => w'.cell? ⟨b, off, none⟩ = some (.float .f32 x0)) (first | exact KA | go_keep) (fail)) | fail
      all_goals
        go_wp2_with fail
        go_meet
        first
          | exact ⟨_, rfl, rfl, World.rowIs_made _ _ _ _, by simp, by (repeat (first | assumption | exact Ext.refl _ | (with_reducible refine Ext.stepS ?_ (by first | exact Nat.le_refl _ | (simp; done) | (simp; omega)) _) | (with_reducible refine Ext.stepN ?_ _) | (with_reducible refine Ext.stepD ?_) | (with_reducible refine Ext.stepA ?_ _)))⟩
          | (refine ⟨_, rfl, rfl, rowIs_on (World.rowIs_made _ _ _ _) (by (repeat (first | assumption | exact Ext.refl _ | (with_reducible refine Ext.stepS ?_ (by first | exact Nat.le_refl _ | (simp; done) | (simp; omega)) _) | (with_reducible refine Ext.stepN ?_ _) | (with_reducible refine Ext.stepD ?_) | (with_reducible refine Ext.stepA ?_ _)))), ?_, ?_⟩ <;> first | (simp; done) | ((repeat (first | assumption | exact Ext.refl _ | (with_reducible refine Ext.stepS ?_ (by first | exact Nat.le_refl _ | (simp; done) | (simp; omega)) _) | (with_reducible refine Ext.stepN ?_ _) | (with_reducible refine Ext.stepD ?_) | (with_reducible refine Ext.stepA ?_ _))); done) | omega)
    case rest =>
      obtain ⟨g, rfl, rfl, hrw, hgu, xg⟩ := hcut
      have RW := Lib.hid hrw
      have GU := Lib.hid hgu
      have XG := Lib.hid xg
      have hcur := RW.out.cell (show 0 < m + 1 by omega)
      have hfro := RW.out.frozen 0
      clear hrw hgu xg cu
      go_wp2_with fail
      clear hcur hfro
      go_loopw [7, 30] (fun x i wr => ∃ (k : Nat) (B : Nat → Nat), k ≤ m ∧ i = .int .i64 k ∧ x = .float .f32 (B k) ∧ (∀ j, j ≤ k → fv .f32 (B j) = smN zs sh j ∧ B j < 4294967296) ∧ wr.rowIs g 28 (m + 1) (smF B k) ∧ Ext u wr) (fun _ i _ => m - (intOf i).toNat)
      case atStart =>
        refine ⟨0, fun _ => x0, Nat.zero_le _, rfl, rfl, fun j hj => ?_, smF_start x0 RW.out, Ext.stepS XG.out GU.out _⟩
        obtain rfl : j = 0 := by omega
        refine ⟨?_, HX32.out⟩
        show fv .f32 x0 = fv .f32 (getN zs 0)
        rw [HX0.out]
      case round =>
        obtain ⟨k, B, hk, rfl, rfl, hB, hrow, hext⟩ := hrel
        have HBB := Lib.hid hB
        have HRW := Lib.hid hrow
        have HE := Lib.hid hext
        obtain ⟨xb, hxb⟩ : ∃ xb, B k = xb := ⟨_, rfl⟩
        have HXB := Lib.hid hxb
        rw [hxb]
        clear hB hrow hext hxb
        by_cases hlt : k < m
        · have := HM0.out; omega
        · obtain rfl : k = m := by omega
          have HRD := Lib.hid (show Reads wr (some ⟨g, 0, none⟩) (k + 1) (flos (bitsOfN B (k + 1))) from ⟨by rw [flos_length, bitsOfN_length], .inr ⟨g, 0, rfl, fun i hi => by
            rw [Nat.zero_add, HRW.out.cell (i := i) hi, flos_get _ i (by rw [bitsOfN_length]; exact hi), bitsOfN_get B _ i hi]
            unfold smF; rw [if_pos (by omega)]; rfl⟩⟩)
          have HLT := Lib.hid (bitsOfN_lt (B := B) (n := k + 1) (fun j hj => (HBB.out j (by omega)).2))
          have hend := smo_end (B := B) HZ.out HSB.out (fun j hj => (HBB.out j (by omega)).1)
          have HMX := Lib.hid (show k + 1 ≤ maxLen by unfold maxLen; omega)
          clear hlt
          rcases hend with ⟨hf, hr⟩ | ⟨hf, hr⟩
          · have HF := Lib.hid hf
            have hv2 := HV.out
            rw [hr] at hv2
            simp only [Prod.mk.injEq] at hv2
            obtain ⟨rfl, rfl⟩ := hv2
            have HL := Lib.hid (bitsOfN_length B (k + 1))
            clear hf hr
            go_wp2_with fail
            refine (c_impl_streamIf_yes _ _ _ (bitsOfN B (k + 1)) _ HF.out HMX.out HLT.out HRD.out).mono ?_; rintro e w5 ⟨rfl, q5, rfl⟩
            go_wp2
            go_ret2
            refine ⟨some ⟨g, 0, none⟩, k + 1, by first | (rw [HL.out]; done) | (rw [HL.out]; rfl), ?_, by have := XU.out.trans HE.out; (repeat (first | assumption | exact Ext.refl _ | (with_reducible refine Ext.stepS ?_ (by first | exact Nat.le_refl _ | (simp; done) | (simp; omega)) _) | (with_reducible refine Ext.stepN ?_ _) | (with_reducible refine Ext.stepD ?_) | (with_reducible refine Ext.stepA ?_ _)))⟩
            rw [HL.out]
            exact own_made (by rw [flos_length, HL.out]) (Nat.le_trans XU.out.size GU.out) (rowIs_on HRW.out (Ext.drewN _ _)) (fun i hi => by rw [flos_get _ i (by rw [HL.out]; exact hi), bitsOfN_get B _ i hi]; unfold smF; rw [if_pos (by omega)]; rfl)
          · have HF := Lib.hid hf
            have hv2 := HV.out
            rw [hr] at hv2
            simp only [Prod.mk.injEq] at hv2
            obtain ⟨rfl, rfl⟩ := hv2
            clear hf hr
            go_wp2_with fail
            refine (c_impl_streamIf_no _ _ _ (bitsOfN B (k + 1)) _ HF.out HMX.out HLT.out HRD.out).mono ?_; rintro e w5 ⟨rfl, q5, rfl⟩
            go_wp2
            go_ret2
            exact ⟨none, 0, rfl, Own.nil _ _ _ _, by have := XU.out.trans HE.out; (repeat (first | assumption | exact Ext.refl _ | (with_reducible refine Ext.stepS ?_ (by first | exact Nat.le_refl _ | (simp; done) | (simp; omega)) _) | (with_reducible refine Ext.stepN ?_ _) | (with_reducible refine Ext.stepD ?_) | (with_reducible refine Ext.stepA ?_ _)))⟩
  · have hc0' : ¬ (c : Int) = 0 := by omega
    go_enter Try.func23, Try.ntmps23
    go_wp2_with fail
    refine (c_impl_isStream (some ⟨b, off, none⟩) (m + 1) (c + 1) zs _ HS.out HM.out H.out HB.out).mono ?_; rintro e w' ⟨rfl, q, rfl⟩
    go_wp2_with fail
    refine (c_impl_share_s sh _ HQ.out).mono ?_; rintro e w2 ⟨rfl, rfl⟩
    obtain ⟨u, hu⟩ : ∃ u, w.drewN q = u := ⟨_, rfl⟩
    have XU := Lib.hid (show Ext w u by rw [← hu]; exact Ext.drewN _ _)
    have cu : u.cell? ⟨b, off, none⟩ = some (.float .f32 x0) := by rw [← hu]; exact C0.out q
    rw [hu]
    clear hu
    go_upto_region 3 with fail
    go_cut [6, 7] (fun s6 s7 wx => ∃ g, s6 = .slice (some ⟨g, 0, none⟩) (m + 1) (m + 1) ∧ s7 = .float .f32 x0 ∧ wx.rowIs g 28 (m + 1) (fun _ => .float .f32 0) ∧ u.heap.size ≤ g ∧ Ext u wx)
    case first =>
      first | (go_region_held3 (fun w' => w'.cell? ⟨b, off, none⟩ = some (.float .f32 x0)) (first | exact KA | go_keep) (fail)) | fail
      all_goals
        go_wp2_with fail
        go_meet
        first
          | exact ⟨_, rfl, rfl, World.rowIs_made _ _ _ _, by simp, by (repeat (first | assumption | exact Ext.refl _ | (with_reducible refine Ext.stepS ?_ (by first | exact Nat.le_refl _ | (simp; done) | (simp; omega)) _) | (with_reducible refine Ext.stepN ?_ _) | (with_reducible refine Ext.stepD ?_) | (with_reducible refine Ext.stepA ?_ _)))⟩
          | (refine ⟨_, rfl, rfl, rowIs_on (World.rowIs_made _ _ _ _) (by (repeat (first | assumption | exact Ext.refl _ | (with_reducible refine Ext.stepS ?_ (by first | exact Nat.le_refl _ | (simp; done) | (simp; omega)) _) | (with_reducible refine Ext.stepN ?_ _) | (with_reducible refine Ext.stepD ?_) | (with_reducible refine Ext.stepA ?_ _)))), ?_, ?_⟩ <;> first | (simp; done) | ((repeat (first | assumption | exact Ext.refl _ | (with_reducible refine Ext.stepS ?_ (by first | exact Nat.le_refl _ | (simp; done) | (simp; omega)) _) | (with_reducible refine Ext.stepN ?_ _) | (with_reducible refine Ext.stepD ?_) | (with_reducible refine Ext.stepA ?_ _))); done) | omega)
    case rest =>
      obtain ⟨g, rfl, rfl, hrw, hgu, xg⟩ := hcut
      have RW := Lib.hid hrw
      have GU := Lib.hid hgu
      have XG := Lib.hid xg
      have hcur := RW.out.cell (show 0 < m + 1 by omega)
      have hfro := RW.out.frozen 0
      clear hrw hgu xg cu
      go_wp2_with fail
      clear hcur hfro
      go_loopw [7, 30] (fun x i wr => ∃ (k : Nat) (B : Nat → Nat), k ≤ m ∧ i = .int .i64 k ∧ x = .float .f32 (B k) ∧ (∀ j, j ≤ k → fv .f32 (B j) = smN zs sh j ∧ B j < 4294967296) ∧ wr.rowIs g 28 (m + 1) (smF B k) ∧ Ext u wr) (fun _ i _ => m - (intOf i).toNat)
      case atStart =>
        refine ⟨0, fun _ => x0, Nat.zero_le _, rfl, rfl, fun j hj => ?_, smF_start x0 RW.out, Ext.stepS XG.out GU.out _⟩
        obtain rfl : j = 0 := by omega
        refine ⟨?_, HX32.out⟩
        show fv .f32 x0 = fv .f32 (getN zs 0)
        rw [HX0.out]
      case round =>
        obtain ⟨k, B, hk, rfl, rfl, hB, hrow, hext⟩ := hrel
        have HBB := Lib.hid hB
        have HRW := Lib.hid hrow
        have HE := Lib.hid hext
        obtain ⟨xb, hxb⟩ : ∃ xb, B k = xb := ⟨_, rfl⟩
        have HXB := Lib.hid hxb
        rw [hxb]
        clear hB hrow hext hxb
        by_cases hlt : k < m
        · have c1 : wr.cell? ⟨b, off + 1 + k, none⟩ = some (.float .f32 (getN zs (k + 1))) := Ext.some HE.out (Ext.some XU.out (by have := HC.out (k + 1) (by omega); rw [show off + 1 + k = off + (k + 1) by omega]; exact this))
          obtain ⟨y, hy⟩ : ∃ y, getN zs (k + 1) = y := ⟨_, rfl⟩
          have HY := Lib.hid hy
          rw [hy] at c1
          have hkn : (k : Int) < (m : Int) := by omega
          have hcur : ∀ q, (wr.drewN q).cell? ⟨g, k + 1, none⟩ = some (smF B k (k + 1)) := fun q => (rowIs_on HRW.out (Ext.drewN wr q)).cell (by omega)
          have hfro : ∀ q, (wr.drewN q).frozen? ⟨g, k + 1, none⟩ = false := fun q => (rowIs_on HRW.out (Ext.drewN wr q)).frozen (k + 1)
          clear hy
          go_wp2_with fail
          (with_reducible refine upon_flB rfl ?_); intro d nd hd
          go_wp2_with fail
          (with_reducible refine upon_flB rfl ?_); intro f nf hf
          go_wp2_with fail
          (with_reducible refine upon_flB rfl ?_); intro g2 ng hg
          have HG := Lib.hid (show fv .f32 g2 = smN zs sh (k + 1) by
            have e : fv .f32 xb = smN zs sh k := by rw [← HXB.out]; exact (HBB.out k (Nat.le_refl _)).1
            show _ = fop .add .f32 (smN zs sh k) (fop .mul .f32 (fv .f32 sh) (fop .sub .f32 (fv .f32 (getN zs (k + 1))) (smN zs sh k)))
            rw [HY.out, hg.out.1, hf.out.1, hd.out.1, e])
          have HG32 := Lib.hid (show g2 < 4294967296 from hg.out.2)
          clear hd hf hg
          go_wp2
          go_roundw
          case rel => exact ⟨k + 1, fun j => if j = k + 1 then g2 else B j, by omega, by go_num, by simp, fun j hj => (by
            by_cases e : j = k + 1
            · subst e; simp; exact ⟨HG.out, HG32.out⟩
            · simp [e]; exact HBB.out j (by omega)), smF_step B k g2 (rowIs_on HRW.out (by (repeat (first | assumption | exact Ext.refl _ | (with_reducible refine Ext.stepS ?_ (by first | exact Nat.le_refl _ | (simp; done) | (simp; omega)) _) | (with_reducible refine Ext.stepN ?_ _) | (with_reducible refine Ext.stepD ?_) | (with_reducible refine Ext.stepA ?_ _))))), by have := HE.out; have := GU.out; (repeat (first | assumption | exact Ext.refl _ | (with_reducible refine Ext.stepS ?_ (by first | exact Nat.le_refl _ | (simp; done) | (simp; omega)) _) | (with_reducible refine Ext.stepN ?_ _) | (with_reducible refine Ext.stepD ?_) | (with_reducible refine Ext.stepA ?_ _)))⟩
          case measure => simp [intOf]; omega
        · obtain rfl : k = m := by omega
          have HRD := Lib.hid (show Reads wr (some ⟨g, 0, none⟩) (k + 1) (flos (bitsOfN B (k + 1))) from ⟨by rw [flos_length, bitsOfN_length], .inr ⟨g, 0, rfl, fun i hi => by
            rw [Nat.zero_add, HRW.out.cell (i := i) hi, flos_get _ i (by rw [bitsOfN_length]; exact hi), bitsOfN_get B _ i hi]
            unfold smF; rw [if_pos (by omega)]; rfl⟩⟩)
          have HLT := Lib.hid (bitsOfN_lt (B := B) (n := k + 1) (fun j hj => (HBB.out j (by omega)).2))
          have hend := smo_end (B := B) HZ.out HSB.out (fun j hj => (HBB.out j (by omega)).1)
          have HMX := Lib.hid (show k + 1 ≤ maxLen by unfold maxLen; omega)
          clear hlt
          rcases hend with ⟨hf, hr⟩ | ⟨hf, hr⟩
          · have HF := Lib.hid hf
            have hv2 := HV.out
            rw [hr] at hv2
            simp only [Prod.mk.injEq] at hv2
            obtain ⟨rfl, rfl⟩ := hv2
            have HL := Lib.hid (bitsOfN_length B (k + 1))
            clear hf hr
            go_wp2_with fail
            refine (c_impl_streamIf_yes _ _ _ (bitsOfN B (k + 1)) _ HF.out HMX.out HLT.out HRD.out).mono ?_; rintro e w5 ⟨rfl, q5, rfl⟩
            go_wp2
            go_ret2
            refine ⟨some ⟨g, 0, none⟩, k + 1, by first | (rw [HL.out]; done) | (rw [HL.out]; rfl), ?_, by have := XU.out.trans HE.out; (repeat (first | assumption | exact Ext.refl _ | (with_reducible refine Ext.stepS ?_ (by first | exact Nat.le_refl _ | (simp; done) | (simp; omega)) _) | (with_reducible refine Ext.stepN ?_ _) | (with_reducible refine Ext.stepD ?_) | (with_reducible refine Ext.stepA ?_ _)))⟩
            rw [HL.out]
            exact own_made (by rw [flos_length, HL.out]) (Nat.le_trans XU.out.size GU.out) (rowIs_on HRW.out (Ext.drewN _ _)) (fun i hi => by rw [flos_get _ i (by rw [HL.out]; exact hi), bitsOfN_get B _ i hi]; unfold smF; rw [if_pos (by omega)]; rfl)
          · have HF := Lib.hid hf
            have hv2 := HV.out
            rw [hr] at hv2
            simp only [Prod.mk.injEq] at hv2
            obtain ⟨rfl, rfl⟩ := hv2
            clear hf hr
            go_wp2_with fail
            refine (c_impl_streamIf_no _ _ _ (bitsOfN B (k + 1)) _ HF.out HMX.out HLT.out HRD.out).mono ?_; rintro e w5 ⟨rfl, q5, rfl⟩
            go_wp2
            go_ret2
            exact ⟨none, 0, rfl, Own.nil _ _ _ _, by have := XU.out.trans HE.out; (repeat (first | assumption | exact Ext.refl _ | (with_reducible refine Ext.stepS ?_ (by first | exact Nat.le_refl _ | (simp; done) | (simp; omega)) _) | (with_reducible refine Ext.stepN ?_ _) | (with_reducible refine Ext.stepD ?_) | (with_reducible refine Ext.stepA ?_ _)))⟩
end Go.Proofs.Ytfbapbgiegploaa
