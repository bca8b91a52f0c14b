/- What a window keeps at a time, by the other side (l06Kept). -/
import Derived.Test.YtplngjbllllanaaWkm
import Derived.Test.YtplngjbllllanaaWkc
import Derived.Deep.RegionLaw
namespace Go.Proofs.Ytplngjbllllanaa
open Go.ChangeShapes Go.WideShapes Go.ChangeAt Go.RowKit
set_option linter.unusedVariables false
theorem take_drop_lo (ts : List Int) {d k : Nat} (h : k < d) : (ts.take (k + 1)).drop d = (ts.take k).drop d := by
  rw [List.drop_eq_nil_of_le (by rw [List.length_take]; omega), List.drop_eq_nil_of_le (by rw [List.length_take]; omega)]
theorem take_drop_hi (ts : List Int) {d k : Nat} (h : d ≤ k) (hk : k < ts.length) : (ts.take (k + 1)).drop d = (ts.take k).drop d ++ [getI ts k] := by
  rw [List.take_succ_eq_append_getElem hk, List.drop_append_of_le_length (by rw [List.length_take]; omega)]
  unfold getI; rw [List.getElem?_eq_getElem hk]; rfl
theorem Own.sls {t : TypeId} {w : World} {lo hi n c : Nat} {a : Option Addr} {vs : List Value} (h : Own t w lo hi a n c vs) : SlS a n c := by
  refine ⟨h.2.1, ?_⟩
  rcases h.2.2 with ⟨rfl, h1⟩ | ⟨g, f, rfl, -⟩
  · exact .inl ⟨rfl, h1⟩
  · exact .inr ⟨g, 0, rfl⟩
theorem WkAt.made {T I : TypeId} {lo q g1 g2 : Nat} {w : World} {L P : Int} (hb : Box w q T #[.int .i64 L, .int .i64 P, .slice (some ⟨g1, 0, none⟩) 0 0, .slice (some ⟨g2, 0, none⟩) 0 0]) (h1 : Box w g1 I #[]) (h2 : Box w g2 I #[]) (hne : g1 ≠ g2) (l1 : lo ≤ g1) (l2 : lo ≤ g2) (lq : lo ≤ q) (s : lo ≤ w.heap.size) :
    WkAt T I lo w q L P [] [] (.slice (some ⟨g1, 0, none⟩) 0 0) (.slice (some ⟨g2, 0, none⟩) 0 0) :=
  ⟨hb, ⟨rfl, .inr ⟨g1, 0, #[], rfl, l1, h1, Nat.zero_le _, Nat.zero_le _, rfl, by simp; rfl⟩⟩, ⟨rfl, .inr ⟨g2, 0, #[], rfl, l2, h2, Nat.zero_le _, Nat.zero_le _, rfl, by simp; rfl⟩⟩, fun j h1 h2 => hne (by cases h1; cases h2; rfl), lq, s⟩
theorem three_alloc (w : World) (x y z : Array Value) (s t r : TypeId) : Box (((w.alloc (.cells x s)).alloc (.cells y t)).alloc (.cells z r)).drew w.heap.size s x ∧ Box (((w.alloc (.cells x s)).alloc (.cells y t)).alloc (.cells z r)).drew (w.heap.size + 1) t y ∧ Box (((w.alloc (.cells x s)).alloc (.cells y t)).alloc (.cells z r)).drew (w.heap.size + 1 + 1) r z ∧ Ext w (((w.alloc (.cells x s)).alloc (.cells y t)).alloc (.cells z r)).drew ∧ w.heap.size ≤ (((w.alloc (.cells x s)).alloc (.cells y t)).alloc (.cells z r)).drew.heap.size := by
  have e1 : (w.alloc (.cells x s)).heap.size = w.heap.size + 1 := by simp
  have e2 : ((w.alloc (.cells x s)).alloc (.cells y t)).heap.size = w.heap.size + 1 + 1 := by simp
  refine ⟨((((Box.alloc w x s).past _).past _).on (Ext.drew _)), (((Box.alloc_at _ y t e1.symm).past _).on (Ext.drew _)), ((Box.alloc_at _ z r e2.symm).on (Ext.drew _)), (((Ext.alloc _ _).stepA _).stepA _).stepD, ?_⟩
  simp [World.drew]; omega
theorem wk_step1 {T I : TypeId} {q gg cc : Nat} {u wa w1 : World} {L P x : Int} {ts zs : List Int} {v1 v2 : Value} (hTI : T ≠ I) (h0 : WkAt T I wa.heap.size u q L P ts zs v1 v2) (hb0 : Below wa.heap.size wa u)
    (ho : w1.ownsRow wa.heap.size I 1 (.slice (some ⟨gg, 0, none⟩) (ts.length + 1) cc) (ts.length + 1) (ints ts ++ [.int .i64 x])) (hg0 : (u.alloc (.cells #[.int .i64 x] I)).grownBy w1 v1.ownBlock) (hat : v1.ownBlock = some gg ∨ gg = u.heap.size + 1) :
    w1.cell? ⟨q, 2, none⟩ = some v1 ∧ w1.frozen? ⟨q, 2, none⟩ = false ∧ WkAt T I wa.heap.size (w1.setCell ⟨q, 2, none⟩ (.slice (some ⟨gg, 0, none⟩) (ts.length + 1) cc)) q L P (ts ++ [x]) zs (.slice (some ⟨gg, 0, none⟩) (ts.length + 1) cc) v2 ∧ Below wa.heap.size wa (w1.setCell ⟨q, 2, none⟩ (.slice (some ⟨gg, 0, none⟩) (ts.length + 1) cc)) := by
  have h := h0
  have hb : Below wa.heap.size wa u := hb0
  have hg : (u.alloc (.cells #[.int .i64 x] I)).grownBy w1 v1.ownBlock := hg0
  have e : (u.alloc (.cells #[.int .i64 x] I)).heap.size = u.heap.size + 1 := by simp
  obtain ⟨hb9, ta9⟩ := WkAt.app1 hTI h ho hg (hat.imp id (fun e' => e'.trans (show u.heap.size + 1 = _ by first | (rw [e]; done) | (rw [e]; rfl))))
  have EA : Below wa.heap.size wa w1 := Below.grown (Below.alloc hb h.s _) hg (by have := h.s; rw [e]; exact Nat.le_succ_of_le this) (fun j hj => (h.o1.lt j hj).1)
  exact ⟨hb9.cell 2, hb9.frozen 2, ta9, below_app (k := 2) hb h.s hg (fun j hj => (h.o1.lt j hj).1) h.ql _⟩
theorem wk_step1d {T I : TypeId} {q gg cc : Nat} {u wa w1 : World} {L P x : Int} {ts zs : List Int} {v1 v2 : Value} (hTI : T ≠ I) (h0 : WkAt T I wa.heap.size u q L P ts zs v1 v2) (hb0 : Below wa.heap.size wa u)
    (ho : w1.ownsRow wa.heap.size I 1 (.slice (some ⟨gg, 0, none⟩) (ts.length + 1) cc) (ts.length + 1) (ints ts ++ [.int .i64 x])) (hg0 : (u.alloc (.cells #[.int .i64 x] I)).drew.grownBy w1 v1.ownBlock) (hat : v1.ownBlock = some gg ∨ gg = u.heap.size + 1) :
    w1.cell? ⟨q, 2, none⟩ = some v1 ∧ w1.frozen? ⟨q, 2, none⟩ = false ∧ WkAt T I wa.heap.size (w1.setCell ⟨q, 2, none⟩ (.slice (some ⟨gg, 0, none⟩) (ts.length + 1) cc)) q L P (ts ++ [x]) zs (.slice (some ⟨gg, 0, none⟩) (ts.length + 1) cc) v2 ∧ Below wa.heap.size wa (w1.setCell ⟨q, 2, none⟩ (.slice (some ⟨gg, 0, none⟩) (ts.length + 1) cc)) := by
  have h := h0.on (Ext.drew u)
  have hb : Below wa.heap.size wa u.drew := hb0.drew
  have hg : (u.drew.alloc (.cells #[.int .i64 x] I)).grownBy w1 v1.ownBlock := hg0
  have e : (u.drew.alloc (.cells #[.int .i64 x] I)).heap.size = u.drew.heap.size + 1 := by simp
  obtain ⟨hb9, ta9⟩ := WkAt.app1 hTI h ho hg (hat.imp id (fun e' => e'.trans (show u.heap.size + 1 = _ by first | (rw [e]; done) | (rw [e]; rfl))))
  have EA : Below wa.heap.size wa w1 := Below.grown (Below.alloc hb h.s _) hg (by have := h.s; rw [e]; exact Nat.le_succ_of_le this) (fun j hj => (h.o1.lt j hj).1)
  exact ⟨hb9.cell 2, hb9.frozen 2, ta9, below_app (k := 2) hb h.s hg (fun j hj => (h.o1.lt j hj).1) h.ql _⟩
theorem wk_step2 {T I : TypeId} {q gg cc : Nat} {u wa w1 : World} {L P x : Int} {ts zs : List Int} {v1 v2 : Value} (hTI : T ≠ I) (h0 : WkAt T I wa.heap.size u q L P ts zs v1 v2) (hb0 : Below wa.heap.size wa u)
    (ho : w1.ownsRow wa.heap.size I 1 (.slice (some ⟨gg, 0, none⟩) (zs.length + 1) cc) (zs.length + 1) (ints zs ++ [.int .i64 x])) (hg0 : (u.alloc (.cells #[.int .i64 x] I)).grownBy w1 v2.ownBlock) (hat : v2.ownBlock = some gg ∨ gg = u.heap.size + 1) :
    w1.cell? ⟨q, 3, none⟩ = some v2 ∧ w1.frozen? ⟨q, 3, none⟩ = false ∧ WkAt T I wa.heap.size (w1.setCell ⟨q, 3, none⟩ (.slice (some ⟨gg, 0, none⟩) (zs.length + 1) cc)) q L P ts (zs ++ [x]) v1 (.slice (some ⟨gg, 0, none⟩) (zs.length + 1) cc) ∧ Below wa.heap.size wa (w1.setCell ⟨q, 3, none⟩ (.slice (some ⟨gg, 0, none⟩) (zs.length + 1) cc)) := by
  have h := h0
  have hb : Below wa.heap.size wa u := hb0
  have hg : (u.alloc (.cells #[.int .i64 x] I)).grownBy w1 v2.ownBlock := hg0
  have e : (u.alloc (.cells #[.int .i64 x] I)).heap.size = u.heap.size + 1 := by simp
  obtain ⟨hb9, ta9⟩ := WkAt.app2 hTI h ho hg (hat.imp id (fun e' => e'.trans (show u.heap.size + 1 = _ by first | (rw [e]; done) | (rw [e]; rfl))))
  have EA : Below wa.heap.size wa w1 := Below.grown (Below.alloc hb h.s _) hg (by have := h.s; rw [e]; exact Nat.le_succ_of_le this) (fun j hj => (h.o2.lt j hj).1)
  exact ⟨hb9.cell 3, hb9.frozen 3, ta9, below_app (k := 3) hb h.s hg (fun j hj => (h.o2.lt j hj).1) h.ql _⟩
theorem wk_step2d {T I : TypeId} {q gg cc : Nat} {u wa w1 : World} {L P x : Int} {ts zs : List Int} {v1 v2 : Value} (hTI : T ≠ I) (h0 : WkAt T I wa.heap.size u q L P ts zs v1 v2) (hb0 : Below wa.heap.size wa u)
    (ho : w1.ownsRow wa.heap.size I 1 (.slice (some ⟨gg, 0, none⟩) (zs.length + 1) cc) (zs.length + 1) (ints zs ++ [.int .i64 x])) (hg0 : (u.alloc (.cells #[.int .i64 x] I)).drew.grownBy w1 v2.ownBlock) (hat : v2.ownBlock = some gg ∨ gg = u.heap.size + 1) :
    w1.cell? ⟨q, 3, none⟩ = some v2 ∧ w1.frozen? ⟨q, 3, none⟩ = false ∧ WkAt T I wa.heap.size (w1.setCell ⟨q, 3, none⟩ (.slice (some ⟨gg, 0, none⟩) (zs.length + 1) cc)) q L P ts (zs ++ [x]) v1 (.slice (some ⟨gg, 0, none⟩) (zs.length + 1) cc) ∧ Below wa.heap.size wa (w1.setCell ⟨q, 3, none⟩ (.slice (some ⟨gg, 0, none⟩) (zs.length + 1) cc)) := by
  have h := h0.on (Ext.drew u)
  have hb : Below wa.heap.size wa u.drew := hb0.drew
  have hg : (u.drew.alloc (.cells #[.int .i64 x] I)).grownBy w1 v2.ownBlock := hg0
  have e : (u.drew.alloc (.cells #[.int .i64 x] I)).heap.size = u.drew.heap.size + 1 := by simp
  obtain ⟨hb9, ta9⟩ := WkAt.app2 hTI h ho hg (hat.imp id (fun e' => e'.trans (show u.heap.size + 1 = _ by first | (rw [e]; done) | (rw [e]; rfl))))
  have EA : Below wa.heap.size wa w1 := Below.grown (Below.alloc hb h.s _) hg (by have := h.s; rw [e]; exact Nat.le_succ_of_le this) (fun j hj => (h.o2.lt j hj).1)
  exact ⟨hb9.cell 3, hb9.frozen 3, ta9, below_app (k := 3) hb h.s hg (fun j hj => (h.o2.lt j hj).1) h.ql _⟩
/-- what it answers -/
def RetWk (I : TypeId) (L P : Int) (tk zk : List Int) (w : World) (e : Ending) (w' : World) : Prop := ∃ a1 c1 a2 c2, e = .returned (.agg #[.int .i64 L, .int .i64 P, .slice a1 tk.length c1, .slice a2 zk.length c2]) ∧ Own I w' w.heap.size w'.heap.size a1 tk.length c1 (ints tk) ∧ Own I w' w.heap.size w'.heap.size a2 zk.length c2 (ints zk) ∧ Apart a1 a2 ∧ Ext w w'
set_option maxRecDepth 100000 in
set_option maxHeartbeats 4000000 in
theorem c_spec_l06Kept (qb : Nat) (L P : Int) (a1 : Option Addr) (cap1 : Nat) (ts : List Int) (a2 : Option Addr) (cap2 : Nat) (zs : List Int) (t : Int) (w : World) (hr : LateOk L P ts zs t) (h : Reads2 w a1 ts.length (ints ts) a2 zs.length (ints zs)) (hq : Box w qb 46 #[.int .i64 L, .int .i64 P, .slice a1 ts.length cap1, .slice a2 zs.length cap2]) :
    Calls Try.prog 78 #[.pointer (some ⟨qb, 0, none⟩), .int .i64 t] w (RetWk 2 L P (kepT L ts t) (kepZ L ts zs t) w) := by
  obtain ⟨i0, hi, hz0, hz1, hz2⟩ := info_parts info_i64
  have H := Lib.hid h
  have BX := Lib.hid hq
  have HR := Lib.hid hr
  have hn128 : ts.length ≤ 128 := hr.ok.d.hn
  have hnI : (ts.length : Int) ≤ 128 := by omega
  have hzl : zs.length = ts.length := hr.ok.d.hk
  have TI := Lib.hid (show (46 : TypeId) ≠ 2 by decide)
  have X0 := Lib.hid (Ext.alloc w (.cells #[.int .i64 0, .int .i64 0, .slice none 0 0, .slice none 0 0] 46))
  have BR := Lib.hid (Box.alloc w #[.int .i64 0, .int .i64 0, .slice none 0 0, .slice none 0 0] 46)
  obtain ⟨b0, b1, b2, b3⟩ := (BX.out.on X0.out).four
  clear h hq hr
  go_enter Try.func78, Try.ntmps78
  go_upto_region 1 with fail
  obtain ⟨wa, hwa⟩ : ∃ wa, w.alloc (.cells #[.int .i64 0, .int .i64 0, .slice none 0 0, .slice none 0 0] 46) = wa := ⟨_, rfl⟩
  rw [hwa] at b0 b1 b2 b3 X0 BR
  rw [hwa]
  have HB0 := Lib.hid b0
  have HB1 := Lib.hid b1
  go_cut [5] from 7 (fun s w' => ∃ q v1 v2, s = .pointer (some ⟨q, 0, none⟩) ∧ WkAt 46 2 wa.heap.size w' q L P [] [] v1 v2 ∧ Ext wa w')
  case first =>
    go_region_held3 (fun w' => w'.cell? ⟨qb, 0, none⟩ = some (.int .i64 L) ∧ w'.cell? ⟨qb, 1, none⟩ = some (.int .i64 P)) (first | exact ⟨Ext.some (by (repeat (first | assumption | exact Ext.refl _ | (with_reducible refine Ext.stepS ?_ (by first | exact Nat.le_refl _ | (simp; done) | (simp; omega)) _) | (with_reducible refine Ext.stepN ?_ _) | (with_reducible refine Ext.stepD ?_) | (with_reducible refine Ext.stepA ?_ _)))) HB0.out, Ext.some (by (repeat (first | assumption | exact Ext.refl _ | (with_reducible refine Ext.stepS ?_ (by first | exact Nat.le_refl _ | (simp; done) | (simp; omega)) _) | (with_reducible refine Ext.stepN ?_ _) | (with_reducible refine Ext.stepD ?_) | (with_reducible refine Ext.stepA ?_ _)))) HB1.out⟩ | go_keep) (fail)
    all_goals go_wp2
    all_goals
      go_meet
      case rel =>
        obtain ⟨k1, k2, k3, kx, ks⟩ := three_alloc wa _ _ _ _ _ _
        first
          | exact ⟨_, _, _, rfl, WkAt.made k3 k1 k2 (by omega) (by omega) (by omega) (by omega) ks, kx⟩
          | exact ⟨_, _, _, rfl, WkAt.made k3 k2 k1 (by omega) (by omega) (by omega) (by omega) ks, kx⟩
          | exact ⟨_, _, _, rfl, WkAt.made k2 k1 k3 (by omega) (by omega) (by omega) (by omega) ks, kx⟩
          | exact ⟨_, _, _, rfl, WkAt.made k2 k3 k1 (by omega) (by omega) (by omega) (by omega) ks, kx⟩
          | exact ⟨_, _, _, rfl, WkAt.made k1 k2 k3 (by omega) (by omega) (by omega) (by omega) ks, kx⟩
          | exact ⟨_, _, _, rfl, WkAt.made k1 k3 k2 (by omega) (by omega) (by omega) (by omega) ks, kx⟩
  case rest =>
    obtain ⟨q, v1, v2, rfl, hwk, hxa⟩ := hcut
    have WA0 := Lib.hid hwk
    have XA := Lib.hid (show Ext wa wc from hxa)
    obtain ⟨d, hd⟩ : ∃ d, outW (t - L) ts = d := ⟨_, rfl⟩
    have HD := Lib.hid (show OutOk (t - L) ts d by rw [← hd]; exact out_ok HR.out.ok.a)
    have HDD := Lib.hid hd
    have t0 := HR.out.t1
    have t1 := HR.out.t2
    have L1 := HR.out.ok.d.l1
    have L2 := HR.out.ok.d.l2
    have hws : wa.heap.size = w.heap.size + 1 := by rw [← hwa]; simp
    have HWS := Lib.hid hws
    clear b0 b1 b2 b3 hwk hxa hd HB0 HB1 hwa hws
    go_wp2
    go_loopw [6] (fun i wr => ∃ k : Nat, k ≤ ts.length ∧ i = .int .i64 k ∧ (∃ v1 v2, WkAt 46 2 wa.heap.size wr q L P ((ts.take k).drop d) ((zs.take k).drop d) v1 v2) ∧ Below wa.heap.size wa wr) (fun i _ => ts.length - (intOf i).toNat)
    case atStart => exact ⟨0, Nat.zero_le _, rfl, ⟨v1, v2, by rw [List.take_zero, List.take_zero, List.drop_nil]; exact WA0.out⟩, XA.out⟩
    case round =>
      obtain ⟨k, hk, rfl, ⟨v1, v2, hta⟩, hbl⟩ := hrel
      have TA0 := Lib.hid hta
      have BL0 := Lib.hid hbl
      have BXR := Lib.hid ((BX.out.on X0.out).on hbl)
      obtain ⟨b0, b1, b2, b3⟩ := BXR.out.four
      clear hta hbl
      by_cases hlt : k < ts.length
      · have hltI : (k : Int) < (ts.length : Int) := by omega
        rcases H.out.r1.int.2 with h0 | ⟨g1, o1, rfl, hc1⟩
        · omega
        rcases H.out.r2.int.2 with h0 | ⟨g2, o2, rfl, hc2⟩
        · omega
        have XW := Lib.hid (X0.out.trans BL0.out)
        have c1 := XW.out.some (hc1 k hlt)
        have c2 := XW.out.some (hc2 k (by omega))
        have CX := Lib.hid (X0.out.some (hc1 k hlt))
        have CY := Lib.hid (X0.out.some (hc2 k (by omega)))
        have HX0 := Lib.hid (show ∃ x, getI ts k = x ∧ (if d ≤ k then t - L < x else x ≤ t - L) from ⟨_, rfl, by
          split
          · exact HD.out.hi k (by omega) hlt
          · exact HD.out.lo k (by omega)⟩)
        have bx := HR.out.l k hlt
        have bx0 := HR.out.ok.t k hlt
        obtain ⟨x, hx⟩ : ∃ x, getI ts k = x := ⟨_, rfl⟩
        obtain ⟨y, hy⟩ : ∃ y, getI zs k = y := ⟨_, rfl⟩
        rw [hx] at bx
        have hx' : ts[k]?.getD 0 = x := hx
        have hy' : zs[k]?.getD 0 = y := hy
        rw [hx'] at c1 CX
        rw [hy'] at c2 CY
        have hxl := HD.out.lo k
        have hxh := HD.out.hi k
        rw [hx] at hxl hxh
        have hkz : (k : Int) < (zs.length : Int) := by omega
        have hw1 : IntKind.i64.wrap (t - L) = t - L := by rw [IntKind.wrap_i64]; omega
        by_cases hdk : d ≤ k
        · have hgt : t - L < x := hxh hdk hlt
          have HT1 := Lib.hid (show (ts.take (k + 1)).drop d = (ts.take k).drop d ++ [x] by rw [take_drop_hi ts hdk hlt, hx])
          have HT2 := Lib.hid (show (zs.take (k + 1)).drop d = (zs.take k).drop d ++ [y] by rw [take_drop_hi zs hdk (by omega), hy])
          obtain ⟨tk, htk⟩ : ∃ l, (ts.take k).drop d = l := ⟨_, rfl⟩
          obtain ⟨zk, hzk⟩ : ∃ l, (zs.take k).drop d = l := ⟨_, rfl⟩
          have HLN := Lib.hid (show tk.length ≤ 128 ∧ zk.length ≤ 128 by rw [← htk, ← hzk, List.length_drop, List.length_drop, List.length_take, List.length_take]; omega)
          rw [htk, hzk] at TA0
          rw [htk] at HT1
          rw [hzk] at HT2
          clear hc1 hc2 hx hy hx' hy' hxl hxh htk hzk HX0 bx0
          go_wp2
          go_quiet (fail)
          have B2 := Lib.hid (BX.out.on X0.out).four.2.2.1
          have B3 := Lib.hid (BX.out.on X0.out).four.2.2.2
          clear c1 c2 b0 b1 b2 b3
          go_upto_region 6 with fail
          obtain ⟨u, hu⟩ : ∃ u, wr.drewN nq = u := ⟨_, rfl⟩
          have Xu : Ext wr u := by rw [← hu]; exact Ext.drewN _ _
          have TA1 := Lib.hid (TA0.out.on Xu)
          have BL1 := Lib.hid (BL0.out.trans (Xu.mono TA0.out.s))
          rw [hu]
          clear hu Xu
          have d0 := Ext.some (show Ext wa u from BL1.out) B2.out
          have d1 := Ext.some (show Ext wa u from BL1.out) CX.out
          have q2 := TA1.out.b.cell 2
          have q2a := (TA1.out.on (Ext.alloc u (.cells #[.int .i64 x] 2))).b.cell 2
          have q2e := (TA1.out.on ((Ext.drew u).stepA (.cells #[.int .i64 x] 2))).b.cell 2
          have q2d := (TA1.out.on ((Ext.alloc u (.cells #[.int .i64 x] 2)).stepD)).b.cell 2
          go_cut [] from 41 to 52 (fun w' => ∃ v', WkAt 46 2 wa.heap.size w' q L P (tk ++ [x]) zk v' v2 ∧ Below wa.heap.size wa w')
          case first =>
            go_region_law ((refine step_append_lies _ (by rfl) (.tmp 42) (.tmp 50) 40 (by rfl) wa.heap.size 2 i0 _ 1 8 Try.underlying40 hi hz0 hz1 hz2 rfl (by decide) _ tk.length (ints tk) (by rfl) (WkAt.on TA1.out (show Ext u _ by (repeat (first | assumption | exact Ext.refl _ | (with_reducible refine Ext.stepS ?_ (by first | exact Nat.le_refl _ | (simp; done) | (simp; omega)) _) | (with_reducible refine Ext.stepN ?_ _) | (with_reducible refine Ext.stepD ?_) | (with_reducible refine Ext.stepA ?_ _))))).o1 ⟨u.heap.size, 0, none⟩ 1 1 [.int .i64 x] (by rfl) (by rfl) (one_cell_at _ _ _) (by intro u hu; simp at hu; subst hu; rfl) (by decide) (by have := HLN.out; unfold maxLen; omega) (by have := HLN.out; omega) (by have := TA1.out.s; first | (simp; omega) | omega) (u.heap.size + 1) (by first | omega | (simp; done) | (simp; omega)) ?_; intro gg cc w9 hown' hgrow hat hlt9; obtain ⟨KQ, KF, ta9, bl9⟩ := wk_step1d TI.out TA1.out BL1.out hown' hgrow hat; have TB := Lib.hid ta9; have BB := Lib.hid bl9; clear hown' hgrow hat hlt9 ta9 bl9))
            all_goals go_wp2
            all_goals
              go_meet
              case rel => first | exact ⟨_, TB.out, BB.out⟩ | exact ⟨_, TB.out.on (Ext.drew _), BB.out.drew⟩ | exact ⟨_, TB.out.on (Ext.drewN _ _), BB.out.trans ((Ext.drewN _ _).mono TB.out.s)⟩
          case rest =>
            obtain ⟨v6, hta, hbl⟩ := hcut
            have TA2 := Lib.hid hta
            have BL2 := Lib.hid hbl
            clear hta hbl d0 d1 q2 q2a q2d q2e
            go_upto_region 7 with fail
            obtain ⟨u3, hu3⟩ : ∃ u3, wc = u3 := ⟨_, rfl⟩
            rw [hu3] at TA2 BL2
            rw [hu3]
            clear hu3
            have TA3 := TA2
            have BL3 := BL2
            have d0 := Ext.some (show Ext wa u3 from BL3.out) B3.out
            have d1 := Ext.some (show Ext wa u3 from BL3.out) CY.out
            have q2 := TA3.out.b.cell 3
            have q2a := (TA3.out.on (Ext.alloc u3 (.cells #[.int .i64 y] 2))).b.cell 3
            have q2e := (TA3.out.on ((Ext.drew u3).stepA (.cells #[.int .i64 y] 2))).b.cell 3
            have q2d := (TA3.out.on ((Ext.alloc u3 (.cells #[.int .i64 y] 2)).stepD)).b.cell 3
            go_region_law ((refine step_append_lies _ (by rfl) (.tmp 54) (.tmp 62) 40 (by rfl) wa.heap.size 2 i0 _ 1 8 Try.underlying40 hi hz0 hz1 hz2 rfl (by decide) _ zk.length (ints zk) (by rfl) (WkAt.on TA3.out (show Ext u3 _ by (repeat (first | assumption | exact Ext.refl _ | (with_reducible refine Ext.stepS ?_ (by first | exact Nat.le_refl _ | (simp; done) | (simp; omega)) _) | (with_reducible refine Ext.stepN ?_ _) | (with_reducible refine Ext.stepD ?_) | (with_reducible refine Ext.stepA ?_ _))))).o2 ⟨u3.heap.size, 0, none⟩ 1 1 [.int .i64 y] (by rfl) (by rfl) (one_cell_at _ _ _) (by intro u hu; simp at hu; subst hu; rfl) (by decide) (by have := HLN.out; unfold maxLen; omega) (by have := HLN.out; omega) (by have := TA3.out.s; first | (simp; omega) | omega) (u3.heap.size + 1) (by first | omega | (simp; done) | (simp; omega)) ?_; intro gg cc w9 hown' hgrow hat hlt9; obtain ⟨KQ, KF, ta9, bl9⟩ := wk_step2d TI.out TA3.out BL3.out hown' hgrow hat; have TB := Lib.hid ta9; have BB := Lib.hid bl9; clear hown' hgrow hat hlt9 ta9 bl9))
            all_goals go_wp2
            all_goals
              go_roundw
              case rel => first | exact ⟨k + 1, by omega, by go_num, ⟨v6, _, by rw [HT1.out, HT2.out]; exact TB.out⟩, BB.out⟩ | exact ⟨k + 1, by omega, by go_num, ⟨v6, _, by rw [HT1.out, HT2.out]; exact TB.out.on (Ext.drew _)⟩, BB.out.drew⟩
              case measure => simp [intOf]; omega
        · have hle : ¬ t - L < x := by have := hxl (by omega); omega
          have HT1 := Lib.hid (take_drop_lo ts (show k < d by omega))
          have HT2 := Lib.hid (take_drop_lo zs (show k < d by omega))
          clear hc1 hc2 hx hy hx' hy' hxl hxh HX0 bx0
          go_wp2
          go_quiet (fail)
          go_wp2
          go_roundw
          case rel => exact ⟨k + 1, by omega, by go_num, ⟨v1, v2, by rw [HT1.out, HT2.out]; exact TA0.out.on (Ext.drewN _ _)⟩, BL0.out.trans ((Ext.drewN _ _).mono TA0.out.s)⟩
          case measure => simp [intOf]; omega
      · have hkn : k = ts.length := by omega
        have hlt' : ¬ (k : Int) < (ts.length : Int) := by omega
        have HK1 := Lib.hid (show (ts.take k).drop d = kepT L ts t by unfold kepT; rw [HDD.out, hkn, List.take_length])
        have HK2 := Lib.hid (show (zs.take k).drop d = kepZ L ts zs t by unfold kepZ; rw [HDD.out, hkn, ← hzl, List.take_length])
        rw [HK1.out, HK2.out] at TA0
        obtain ⟨a3, c3, a4, c4, rfl, rfl, ow1, ow2, ap⟩ := TA0.out.own2
        have OW1 := Lib.hid ow1
        have OW2 := Lib.hid ow2
        have AP := Lib.hid ap
        have BRR := Lib.hid (show Box wr w.heap.size 46 #[.int .i64 0, .int .i64 0, .slice none 0 0, .slice none 0 0] from BR.out.on (show Ext wa wr from BL0.out))
        have XWR := Lib.hid (X0.out.trans (show Ext wa wr from BL0.out))
        obtain ⟨b0, b1, b2, b3⟩ := TA0.out.b.four
        obtain ⟨r0, r1, r2, r3⟩ := BRR.out.four
        obtain ⟨g0, g1, g2, g3⟩ := BRR.out.free
        clear ow1 ow2 ap hkn
        go_wp2
        refine bodyPost_ret (v := .agg #[.int .i64 L, .int .i64 P, .slice a3 _ c3, .slice a4 _ c4]) (by simp [results, Try.results78, go_sem, r0, r1, r2, r3]) rfl ⟨a3, c3, a4, c4, rfl, ?_, ?_, AP.out, ?_⟩
        · have hws := HWS.out
          refine own_touch OW1.out (lo' := w.heap.size) (hi' := w.heap.size + 1) ?_ (by first | omega | (simp; done) | (simp; omega)) (by first | omega | (simp; done) | (simp; omega)) (by first | omega | (simp; done) | (simp; omega))
          (repeat (first | assumption | exact Touch.refl _ _ _ | (with_reducible refine Touch.stepS ?_ (by first | exact Nat.le_refl _ | (simp; done) | (simp; omega)) (by first | (simp; done) | (simp; omega)) _) | (with_reducible refine Touch.stepN ?_ _) | (with_reducible refine Touch.stepA ?_ _)))
        · have hws := HWS.out
          refine own_touch OW2.out (lo' := w.heap.size) (hi' := w.heap.size + 1) ?_ (by first | omega | (simp; done) | (simp; omega)) (by first | omega | (simp; done) | (simp; omega)) (by first | omega | (simp; done) | (simp; omega))
          (repeat (first | assumption | exact Touch.refl _ _ _ | (with_reducible refine Touch.stepS ?_ (by first | exact Nat.le_refl _ | (simp; done) | (simp; omega)) (by first | (simp; done) | (simp; omega)) _) | (with_reducible refine Touch.stepN ?_ _) | (with_reducible refine Touch.stepA ?_ _)))
        · have hx9 := XWR.out
          (repeat (first | assumption | exact Ext.refl _ | (with_reducible refine Ext.stepS ?_ (by first | exact Nat.le_refl _ | (simp; done) | (simp; omega)) _) | (with_reducible refine Ext.stepN ?_ _) | (with_reducible refine Ext.stepD ?_) | (with_reducible refine Ext.stepA ?_ _)))
end Go.Proofs.Ytplngjbllllanaa
