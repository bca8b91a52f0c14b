/- Ranks of a valid summary: a slice of structs of the call's own (ranksIn); RanksOf on both sides. -/
import Derived.Test.YtmgkbgdbahijnaaYva
import Derived.Laws.MakeOwn
namespace Go.Proofs.Ytmgkbgdbahijnaa
open Go.ChangeShapes Go.WideShapes Go.ChangeAt Go.RowKit Go.Proofs.Ytmgkbgdbahijnaa.Flo
set_option linter.unusedVariables false
/-- the least and the greatest rank of the value at a place -/
def lowR (gs : List Int) (i : Nat) : Int := sumTo (getI gs) (i + 1)
def highR (gs ss : List Int) (i : Nat) : Int := sumTo (getI gs) (i + 1) + getI ss i
/-- a row of pairs, of which the first k are told -/
def pairF (f g : Nat → Int) (k : Nat) (i : Nat) : Value := if i % 2 = 0 then .int .i64 (if i / 2 < k then f (i / 2) else 0) else .int .i64 (if i / 2 < k then g (i / 2) else 0)
theorem pairF_step (f g : Nat → Int) (k : Nat) {w : World} {b c : Nat} {t : TypeId} {x y : Int} (hx : f k = x) (hy : g k = y) (h : w.rowIs b t c (pairF f g k)) : ((w.setCell ⟨b, k * 2, none⟩ (.int .i64 x)).setCell ⟨b, k * 2 + 1, none⟩ (.int .i64 y)).rowIs b t c (pairF f g (k + 1)) := by
  refine ((h.set (k * 2) (.int .i64 x)).set (k * 2 + 1) (.int .i64 y)).congr fun i hi => ?_
  unfold pairF
  by_cases e : i = k * 2 + 1
  · subst e; rw [if_pos rfl, if_neg (by omega), if_pos (by omega), show (k * 2 + 1) / 2 = k by omega, hy]
  · rw [if_neg e]
    by_cases e2 : i = k * 2
    · subst e2; rw [if_pos rfl, if_pos (by omega), if_pos (by omega), show k * 2 / 2 = k by omega, hx]
    · rw [if_neg e2]
      by_cases e3 : i % 2 = 0
      · rw [if_pos e3, if_pos e3]
        by_cases e4 : i / 2 < k
        · rw [if_pos e4, if_pos (by omega)]
        · rw [if_neg e4, if_neg (by omega)]
      · rw [if_neg e3, if_neg e3]
        by_cases e4 : i / 2 < k
        · rw [if_pos e4, if_pos (by omega)]
        · rw [if_neg e4, if_neg (by omega)]
theorem rowIs_made2 (w : World) (n : Nat) (t : TypeId) (f g : Nat → Int) : (w.alloc (.cells (madeCells #[.int .i64 0, .int .i64 0] (n * 2)) t)).rowIs w.heap.size t (n * 2) (pairF f g 0) := by
  refine ⟨_, Go.Deep.blk_alloc_new _ _, size_madeCells _ _, fun i hi => ?_⟩
  have e : pairF f g 0 i = .int .i64 0 := by unfold pairF; split <;> simp
  rw [e]
  have h2 : i % 2 = 0 ∨ i % 2 = 1 := by omega
  rcases h2 with h | h <;> simp [madeCells, hi, h]
/-- pairs that are read -/
def ReadsP (w : World) (a : Option Addr) (n : Nat) (f g : Nat → Int) : Prop := n = 0 ∨ ∃ b off, a = some ⟨b, off, none⟩ ∧ ∀ i, i < n → w.cell? ⟨b, off + i * 2, none⟩ = some (.int .i64 (f i)) ∧ w.cell? ⟨b, off + i * 2 + 1, none⟩ = some (.int .i64 (g i))
theorem ReadsP.on {w w' : World} {a : Option Addr} {n : Nat} {f g : Nat → Int} (h : ReadsP w a n f g) (e : Ext w w') : ReadsP w' a n f g := by
  rcases h with h0 | ⟨b, off, rfl, hc⟩
  · exact .inl h0
  · exact .inr ⟨b, off, rfl, fun i hi => ⟨e.some (hc i hi).1, e.some (hc i hi).2⟩⟩
theorem readsP_row {w : World} {b n : Nat} {t : TypeId} {f g : Nat → Int} (h : w.rowIs b t (n * 2) (pairF f g n)) : ReadsP w (some ⟨b, 0, none⟩) n f g := by
  refine .inr ⟨b, 0, rfl, fun i hi => ⟨?_, ?_⟩⟩
  · rw [Nat.zero_add, h.cell (i := i * 2) (by omega)]
    unfold pairF
    rw [if_pos (by omega), if_pos (by omega), show i * 2 / 2 = i by omega]
  · rw [Nat.zero_add, h.cell (i := i * 2 + 1) (by omega)]
    unfold pairF
    rw [if_neg (by omega), if_pos (by omega), show (i * 2 + 1) / 2 = i by omega]
theorem run_mk_ranks (n : Nat) (hn : n ≤ 1048576) (w : World) : (Instr.makeSlice 85 (.int .i64 n) (.int .i64 n)).run Try.prog w = .ok (.slice (some ⟨w.heap.size, 0, none⟩) n n) (w.alloc (.cells (madeCells #[.int .i64 0, .int .i64 0] (n * 2)) 84)) := by
  have hinfo : (Try.prog.info? 84).map (fun i => (i.zero, i.size, i.bytes)) = some (some (.agg #[.int .i64 0, .int .i64 0]), 2, 16) := by kernel_rfl
  obtain ⟨i, hi, hz, hs, hb⟩ := info_parts hinfo
  have h := run_make (P := Try.prog) w 85 84 i (.agg #[.int .i64 0, .int .i64 0]) Try.underlying85 hi hz .i64 .i64 n n (by omega) (by omega) (by rw [hb]; omega) (by omega)
  rw [hs] at h
  simpa [Value.cells] using h
set_option maxHeartbeats 4000000 in
theorem c_impl_ranksIn (N C : Int) (a1 : Option Addr) (n1 cap1 : Nat) (a2 : Option Addr) (n cap2 : Nat) (gs : List Int) (a3 : Option Addr) (n3 cap3 : Nat) (ss : List Int) (w : World) (hn : n ≤ 64) (hn3 : n3 = n) (hC : C ≤ 1000000)
    (hg : ∀ i, i < n → 1 ≤ getI gs i ∧ getI gs i ≤ C) (hs : ∀ i, i < n → 0 ≤ getI ss i ∧ getI ss i ≤ C) (h2 : Reads w a2 n (ints gs)) (h3 : Reads w a3 n3 (ints ss)) :
    Calls Try.prog 75 #[.agg #[.int .i64 N, .int .i64 C, .slice a1 n1 cap1, .slice a2 n cap2, .slice a3 n3 cap3]] w fun e w' => ∃ a, e = .returned (.slice a n n) ∧ ReadsP w' a n (lowR gs) (highR gs ss) ∧ Ext w w' := by
  subst hn3
  have HG := Lib.hid hg
  have HS := Lib.hid hs
  have H2 := Lib.hid h2.int.2
  have H3 := Lib.hid h3.int.2
  have BX := Lib.hid (Box.alloc w #[.int .i64 N, .int .i64 C, .slice a1 n1 cap1, .slice a2 n3 cap2, .slice a3 n3 cap3] 31)
  have X0 := Lib.hid (Ext.alloc w (.cells #[.int .i64 N, .int .i64 C, .slice a1 n1 cap1, .slice a2 n3 cap2, .slice a3 n3 cap3] 31))
  have RM := Lib.hid (rowIs_made2 (w.alloc (.cells #[.int .i64 N, .int .i64 C, .slice a1 n1 cap1, .slice a2 n3 cap2, .slice a3 n3 cap3] 31)) n3 84 (lowR gs) (highR gs ss))
  have hmk := fun w => run_mk_ranks n3 (by omega) w
  clear hg hs h2 h3
  go_enter Try.func75, Try.ntmps75
  go_upto_region 1 with fail
  generalize w.alloc (.cells #[.int .i64 N, .int .i64 C, .slice a1 n1 cap1, .slice a2 n3 cap2, .slice a3 n3 cap3] 31) = w1 at *
  obtain ⟨b0, b1, b2, b3, b4⟩ := BX.out.five
  have XA := Lib.hid (Ext.alloc w1 (.cells (madeCells #[.int .i64 0, .int .i64 0] (n3 * 2)) 84))
  obtain ⟨_, _, _, c3, _⟩ := (BX.out.on XA.out).five
  go_wp2
  go_loopw [4, 14] (fun s i wr => ∃ k : Nat, k ≤ n3 ∧ i = .int .i64 k ∧ s = .int .i64 (sumTo (getI gs) k) ∧ wr.rowIs w1.heap.size 84 (n3 * 2) (pairF (lowR gs) (highR gs ss) k) ∧ Ext w1 wr) (fun _ i _ => n3 - (intOf i).toNat)
  case atStart => exact ⟨0, Nat.zero_le _, rfl, rfl, RM.out, XA.out⟩
  case round =>
    obtain ⟨k, hk, rfl, rfl, hrow, hext⟩ := hrel
    by_cases hlt : k < n3
    · rcases H2.out with h0 | ⟨gb, go, rfl, hc2⟩
      · omega
      rcases H3.out with h0 | ⟨sb, so, rfl, hc3⟩
      · omega
      obtain ⟨_, _, _, _, d4⟩ := (BX.out.on hext).five
      have cg := hext.some (X0.out.some (hc2 k hlt))
      have cs := hext.some (X0.out.some (hc3 k hlt))
      obtain ⟨x, hx⟩ : ∃ x, gs[k]?.getD 0 = x := ⟨_, rfl⟩
      obtain ⟨y, hy⟩ : ∃ y, ss[k]?.getD 0 = y := ⟨_, rfl⟩
      obtain ⟨s, hs⟩ : ∃ s, sumTo (getI gs) k = s := ⟨_, rfl⟩
      have hx' : getI gs k = x := hx
      have hy' : getI ss k = y := hy
      have q1 := HG.out k hlt
      have q2 := HS.out k hlt
      have q3 := sumTo_bd (f := getI gs) (n := k) (fun i hi => by have := HG.out i (by omega); omega)
      rw [hx'] at q1; rw [hy'] at q2; rw [hs] at q3
      rw [hx] at cg; rw [hy] at cs
      have s1 : -64000000000000 ≤ s := by omega
      have s2 : s ≤ 64000000000000 := by omega
      obtain ⟨u, hu⟩ : ∃ u, s + x = u := ⟨_, rfl⟩
      obtain ⟨v, hv⟩ : ∃ v, u + y = v := ⟨_, rfl⟩
      have e1 : wrap64 (s + x) = u := by rw [hu]; unfold wrap64; omega
      have e2 : wrap64 (u + y) = v := by rw [hv]; unfold wrap64; omega
      have k1 := hrow.cell (i := k * 2) (by omega)
      have k2 := hrow.frozen (k * 2)
      have hr2 := hrow.set (k * 2) (.int .i64 u)
      have k3 := hr2.cell (i := k * 2 + 1) (by omega)
      have k4 := hr2.frozen (k * 2 + 1)
      have hst := pairF_step (lowR gs) (highR gs ss) k (x := u) (y := v) (by unfold lowR; rw [sumTo_succ, hs, hx', hu]) (by unfold highR; rw [sumTo_succ, hs, hx', hu, hy', hv]) hrow
      have RN := Lib.hid hst
      have XN := Lib.hid ((Ext.stepS hext (a := ⟨w1.heap.size, k * 2, none⟩) (Nat.le_refl _) (.int .i64 u)).stepS (a := ⟨w1.heap.size, k * 2 + 1, none⟩) (Nat.le_refl _) (.int .i64 v))
      have HU := Lib.hid (show sumTo (getI gs) (k + 1) = u by rw [sumTo_succ, hs, hx', hu])
      have HE1 := Lib.hid e1
      rw [hs]
      clear hrow hext hr2 hst hx hy hx' hy' hs hu hv q1 q2 q3 hc2 hc3
      go_wp2
      go_roundw
      case rel => exact ⟨k + 1, by omega, by go_num, by rw [HU.out]; first | rfl | rw [HE1.out], RN.out, XN.out⟩
      case measure => simp [intOf]; omega
    · obtain rfl : k = n3 := by omega
      have RN := Lib.hid hrow
      have XN := Lib.hid hext
      clear hrow hext
      go_wp2
      go_ret
      exact ⟨_, rfl, readsP_row RN.out, X0.out.trans XN.out⟩
end Go.Proofs.Ytmgkbgdbahijnaa
