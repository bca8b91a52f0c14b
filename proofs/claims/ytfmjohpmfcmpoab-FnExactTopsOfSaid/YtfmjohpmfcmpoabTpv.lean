/- TopsOf: both sides. -/
import Derived.Test.YtfmjohpmfcmpoabTpu
namespace Go.Proofs.Ytfmjohpmfcmpoab
open Go.ChangeShapes Go.WideShapes Go.ChangeAt Go.RowKit
set_option linter.unusedVariables false
def topsF (R : Int) (keys : List Int) : List Int × List Int × List Int := keys.foldl (fun t k => putT R t.1 t.2.1 t.2.2 k) ([], [], [])
theorem topsF_nil (R : Int) : topsF R [] = ([], [], []) := rfl
theorem topsF_snoc (R : Int) (keys : List Int) (k : Int) : topsF R (keys ++ [k]) = putT R (topsF R keys).1 (topsF R keys).2.1 (topsF R keys).2.2 k := by unfold topsF; rw [List.foldl_append]; rfl
theorem topsF_in {R : Int} (h1 : 1 ≤ R) (h2 : R ≤ 32) : ∀ (keys : List Int) (n : Nat), n ≤ keys.length → TopsIn R (topsF R (keys.take n)).1 (topsF R (keys.take n)).2.1 (topsF R (keys.take n)).2.2 (n : Int)
  | keys, 0, _ => by
    rw [List.take_zero, topsF_nil]
    exact ⟨h1, h2, by simp; omega, rfl, rfl, fun i hi => absurd hi (Nat.not_lt_zero _)⟩
  | keys, n + 1, hn => by
    have ih := topsF_in h1 h2 keys n (by omega)
    rw [List.take_succ_eq_append_getElem (by omega), topsF_snoc]
    have := ih.put (by omega) (ks' := _) (cs' := _) (es' := _) (key := keys[n]) rfl
    exact this
def topsV (room : Int) (keys : List Int) : PV × Bool := if inB 1 room 32 && keysB keys then (⟨room, (topsF room keys).1, (topsF room keys).2.1, (topsF room keys).2.2⟩, true) else (PV.no, false)
theorem topsV_1 {room : Int} {keys : List Int} (h : inB 1 room 32 = false) : topsV room keys = (PV.no, false) := by unfold topsV; rw [h]; rfl
theorem topsV_2 {room : Int} {keys : List Int} (h : keysB keys = false) : topsV room keys = (PV.no, false) := by unfold topsV; rw [h]; simp
theorem topsV_y {room : Int} {keys : List Int} (h : inB 1 room 32 = true) (h2 : keysB keys = true) : topsV room keys = (⟨room, (topsF room keys).1, (topsF room keys).2.1, (topsF room keys).2.2⟩, true) := by unfold topsV; rw [h, h2]; rfl
theorem topsIn_le {R : Int} {ks cs es : List Int} {B : Int} (h : TopsIn R ks cs es B) : ks.length + cs.length + es.length ≤ 1048576 := by
  have := h.le; have := h.hi; have := h.c; have := h.e; omega
theorem topsV_le {room : Int} {keys : List Int} {c : PV} {b : Bool} (h : topsV room keys = (c, b)) : c.ks.length + c.cs.length + c.es.length ≤ 1048576 := by
  cases h1 : inB 1 room 32
  · rw [topsV_1 h1] at h; cases h; exact Nat.zero_le _
  · cases h2 : keysB keys
    · rw [topsV_2 h2] at h; cases h; exact Nat.zero_le _
    · rw [topsV_y h1 h2] at h; cases h
      have hb := inB_is.1 h1
      have := topsF_in hb.1 hb.2 keys keys.length (Nat.le_refl _)
      rw [List.take_length] at this
      exact topsIn_le this
theorem topsB_nil (R : Int) : topsB R [] [] [] = inB 1 R 32 := by
  unfold topsB
  have h1 : keysB [] = true := rfl
  have h2 : diffB [] = true := rfl
  have h3 : cntsB [] [] = true := rfl
  rw [h1, h2, h3]
  unfold roomB
  cases h : inB 1 R 32
  · rfl
  · have := (inB_is.1 h).1
    rw [decide_eq_true (show (([] : List Int).length : Int) ≤ R by simp; omega)]; rfl
theorem TopAt.own3 {T I : TypeId} {lo q : Nat} {w : World} {R : Int} {ks cs es : List Int} {v1 v2 v3 : Value} (h : TopAt T I lo w q R ks cs es v1 v2 v3) :
    ∃ a1 c1 a2 c2 a3 c3, v1 = .slice a1 ks.length c1 ∧ v2 = .slice a2 cs.length c2 ∧ v3 = .slice a3 es.length c3 ∧ Own3 I I I w lo w.heap.size a1 ks.length c1 (ints ks) a2 cs.length c2 (ints cs) a3 es.length c3 (ints es) := by
  obtain ⟨a1, c1, rfl, ho1⟩ := Own.of_row (e := 0) h.o1
  obtain ⟨a2, c2, rfl, ho2⟩ := Own.of_row (e := 0) h.o2
  obtain ⟨a3, c3, rfl, ho3⟩ := Own.of_row (e := 0) h.o3
  have ap : ∀ {a b : Option Addr} {n m c d : Nat}, ApartV (.slice a n c) (.slice b m d) → Apart a b := fun hp x y hx hy e => by
    subst hx; subst hy
    exact hp x.block rfl (by rw [e]; rfl)
  exact ⟨a1, c1, a2, c2, a3, c3, rfl, rfl, rfl, ⟨ho1, ho2, ho3, ap h.p12, ap h.p13, ap h.p23⟩⟩
theorem TopAt.nil {T I : TypeId} {lo q : Nat} {w : World} {R : Int} (hb : Box w q T #[.int .i64 R, .slice none 0 0, .slice none 0 0, .slice none 0 0]) (hq : lo ≤ q) (hs : lo ≤ w.heap.size) : TopAt T I lo w q R [] [] [] (.slice none 0 0) (.slice none 0 0) (.slice none 0 0) :=
  have ho : w.ownsRow lo I 1 (.slice none 0 0) 0 [] := ⟨rfl, .inl ⟨rfl, rfl⟩⟩
  ⟨hb, ho, ho, ho, (fun j hj => by cases hj), (fun j hj => by cases hj), (fun j hj => by cases hj), hq, hs⟩
theorem RetKPB.nil (t : TypeId) (w w' : World) (x : Ext w w') : RetKPB t t t PV.no false w (.returned (.tuple #[.agg #[.int .i64 0, .slice none 0 0, .slice none 0 0, .slice none 0 0], .bool false])) w' :=
  ⟨none, 0, none, 0, none, 0, rfl, Own3.nil _ _ _ _ _ _, x⟩
set_option maxRecDepth 100000 in
set_option maxHeartbeats 4000000 in
theorem c_impl_TopsOf (room : Int) (a : Option Addr) (n cap : Nat) (zs : List Int) (w : World) {c : PV} {b : Bool} (hv : topsV room zs = (c, b)) (hm : n ≤ 1048576) (h : Reads w a n (ints zs)) :
    Calls Try.prog 24 #[.int .i64 room, .slice a n cap] w (RetKPB 2 2 2 c b w) := by
  obtain ⟨hz, hrd⟩ := h.int
  have HZ := Lib.hid hz
  have HRD := Lib.hid hrd
  have H := Lib.hid h
  have HM := Lib.hid (show n ≤ maxLen by unfold maxLen; omega)
  have X1 := Lib.hid (show Ext w (w.alloc (.cells #[.int .i64 0, .slice none 0 0, .slice none 0 0, .slice none 0 0] 26)) by (repeat (first | assumption | exact Ext.refl _ | (with_reducible refine Ext.stepS ?_ (by first | exact Nat.le_refl _ | (simp; done) | (simp; omega)) _) | (with_reducible refine Ext.stepN ?_ _) | (with_reducible refine Ext.stepD ?_) | (with_reducible refine Ext.stepA ?_ _))))
  have X2 := Lib.hid (show Ext w ((w.alloc (.cells #[.int .i64 0, .slice none 0 0, .slice none 0 0, .slice none 0 0] 26)).alloc (.cells #[.int .i64 room, .slice none 0 0, .slice none 0 0, .slice none 0 0] 26)) by (repeat (first | assumption | exact Ext.refl _ | (with_reducible refine Ext.stepS ?_ (by first | exact Nat.le_refl _ | (simp; done) | (simp; omega)) _) | (with_reducible refine Ext.stepN ?_ _) | (with_reducible refine Ext.stepD ?_) | (with_reducible refine Ext.stepA ?_ _))))
  have BR := Lib.hid ((Box.alloc w #[.int .i64 0, .slice none 0 0, .slice none 0 0, .slice none 0 0] 26).past (.cells #[.int .i64 room, .slice none 0 0, .slice none 0 0, .slice none 0 0] 26))
  have BQ := Lib.hid (Box.alloc_at (w.alloc (.cells #[.int .i64 0, .slice none 0 0, .slice none 0 0, .slice none 0 0] 26)) #[.int .i64 room, .slice none 0 0, .slice none 0 0, .slice none 0 0] 26 (b := w.heap.size + 1) (by simp))
  clear h hz hrd hm
  cases h1 : inB 1 room 32
  · rw [topsV_1 h1] at hv
    cases hv
    have HT := Lib.hid (show topsB room [] [] [] = false by rw [topsB_nil]; exact h1)
    clear h1
    go_enter Try.func24, Try.ntmps24
    go_wp2_with fail
    refine (c_impl_ValidTops room none 0 [] none 0 [] none 0 [] _ HT.out (by decide) ⟨⟨rfl, .inl rfl⟩, ⟨rfl, .inl rfl⟩, ⟨rfl, .inl rfl⟩⟩ (Nat.le_refl _)).mono ?_; rintro e w1 ⟨rfl, x'⟩
    have X3 := Lib.hid (X2.out.trans x')
    have BR3 := Lib.hid (BR.out.on x')
    have BQ3 := Lib.hid (BQ.out.on x')
    clear x'
    obtain ⟨r0, r1, r2, r3⟩ := BR3.out.four
    obtain ⟨g0, g1, g2, g3⟩ := BR3.out.free; have g4 := BR3.out.frozen 4
    go_wp2
    refine bodyPost_ret (v := .tuple #[.agg #[.int .i64 0, .slice none 0 0, .slice none 0 0, .slice none 0 0], .bool false]) (by simp [results, Try.results24, go_sem, r0, r1, r2, r3]) rfl (RetKPB.nil _ _ _ ?_)
    have X9 := X3.out
    (repeat (first | assumption | exact Ext.refl _ | (with_reducible refine Ext.stepS ?_ (by first | exact Nat.le_refl _ | (simp; done) | (simp; omega)) _) | (with_reducible refine Ext.stepN ?_ _) | (with_reducible refine Ext.stepD ?_) | (with_reducible refine Ext.stepA ?_ _)))
  cases h2 : keysB zs
  · rw [topsV_2 h2] at hv
    cases hv
    have HT := Lib.hid (show topsB room [] [] [] = true by rw [topsB_nil]; exact h1)
    have HK := Lib.hid h2
    clear h1 h2
    go_enter Try.func24, Try.ntmps24
    go_wp2_with fail
    refine (c_impl_ValidTops room none 0 [] none 0 [] none 0 [] _ HT.out (by decide) ⟨⟨rfl, .inl rfl⟩, ⟨rfl, .inl rfl⟩, ⟨rfl, .inl rfl⟩⟩ (Nat.le_refl _)).mono ?_; rintro e w1 ⟨rfl, x'⟩
    have X3 := Lib.hid (X2.out.trans x')
    have BR3 := Lib.hid (BR.out.on x')
    have BQ3 := Lib.hid (BQ.out.on x')
    clear x'
    go_wp2_with fail
    refine (c_impl_AreKeys_q a n cap zs _ HK.out HM.out (H.out.on X3.out)).mono ?_; rintro e w2 ⟨rfl, rfl⟩
    obtain ⟨r0, r1, r2, r3⟩ := BR3.out.four
    obtain ⟨g0, g1, g2, g3⟩ := BR3.out.free; have g4 := BR3.out.frozen 4
    go_wp2
    refine bodyPost_ret (v := .tuple #[.agg #[.int .i64 0, .slice none 0 0, .slice none 0 0, .slice none 0 0], .bool false]) (by simp [results, Try.results24, go_sem, r0, r1, r2, r3]) rfl (RetKPB.nil _ _ _ ?_)
    have X9 := X3.out
    (repeat (first | assumption | exact Ext.refl _ | (with_reducible refine Ext.stepS ?_ (by first | exact Nat.le_refl _ | (simp; done) | (simp; omega)) _) | (with_reducible refine Ext.stepN ?_ _) | (with_reducible refine Ext.stepD ?_) | (with_reducible refine Ext.stepA ?_ _)))
  · rw [topsV_y h1 h2] at hv
    cases hv
    have HT := Lib.hid (show topsB room [] [] [] = true by rw [topsB_nil]; exact h1)
    have HK := Lib.hid h2
    have hb := inB_is.1 h1
    have HIN := Lib.hid (topsF_in hb.1 hb.2 zs)
    have hn256 : n ≤ 256 := by have := keysB_len h2; have := HZ.out; omega
    clear h1 h2 hb
    go_enter Try.func24, Try.ntmps24
    go_wp2_with fail
    refine (c_impl_ValidTops room none 0 [] none 0 [] none 0 [] _ HT.out (by decide) ⟨⟨rfl, .inl rfl⟩, ⟨rfl, .inl rfl⟩, ⟨rfl, .inl rfl⟩⟩ (Nat.le_refl _)).mono ?_; rintro e w1 ⟨rfl, x'⟩
    have X3 := Lib.hid (X2.out.trans x')
    have BR3 := Lib.hid (BR.out.on x')
    have BQ3 := Lib.hid (BQ.out.on x')
    clear x'
    go_wp2_with fail
    refine (c_impl_AreKeys_q a n cap zs _ HK.out HM.out (H.out.on X3.out)).mono ?_; rintro e w2 ⟨rfl, rfl⟩
    go_wp2
    go_loopw [22] (fun i wr => ∃ k : Nat, k ≤ n ∧ i = .int .i64 k ∧ (∃ v1 v2 v3, TopAt 26 2 (w.heap.size + 1) wr (w.heap.size + 1) room (topsF room (zs.take k)).1 (topsF room (zs.take k)).2.1 (topsF room (zs.take k)).2.2 v1 v2 v3) ∧ Below (w.heap.size + 1) w1 wr) (fun i _ => n - (intOf i).toNat)
    case atStart => exact ⟨0, Nat.zero_le _, rfl, ⟨_, _, _, TopAt.nil BQ3.out (Nat.le_refl _) (by have := BQ3.out.lt; omega)⟩, Below.refl _ _⟩
    case round =>
      obtain ⟨k, hk, rfl, ⟨v1, v2, v3, hta⟩, hbl⟩ := hrel
      have TA := Lib.hid hta
      have BL := Lib.hid hbl
      have HX := Lib.hid (show Ext w wr from Below.trans X3.out (Below.mono hbl (by omega)))
      clear hta hbl
      by_cases hlt : k < n
      · have hltI : (k : Int) < (n : Int) := by omega
        rcases HRD.out with h0 | ⟨b, off, rfl, hc⟩
        · omega
        have cz := HX.out.some (hc k hlt)
        obtain ⟨x, hx⟩ : ∃ x, zs[k]?.getD 0 = x := ⟨_, rfl⟩
        rw [hx] at cz
        have HS := Lib.hid (show topsF room (zs.take (k + 1)) = putT room (topsF room (zs.take k)).1 (topsF room (zs.take k)).2.1 (topsF room (zs.take k)).2.2 x by
          have h9 : k < zs.length := by have := HZ.out; omega
          rw [List.take_succ_eq_append_getElem h9, topsF_snoc, ← hx, List.getElem?_eq_getElem h9]; rfl)
        have HI9 := Lib.hid (HIN.out k (by have := HZ.out; omega))
        clear hc hx
        go_wp2_with (go_at_call 75; refine (c_countKey (w.heap.size + 1) (w.heap.size + 1) room _ _ _ x (k : Int) _ HI9.out (by omega) TA.out).mono ?_; rintro e w3 ⟨rfl, hta, hbl⟩; have TB := Lib.hid hta; have BB := Lib.hid (BL.out.trans hbl); clear hta hbl)
        go_roundw
        case rel => exact ⟨k + 1, by omega, by go_num, by rw [HS.out]; exact TB.out, BB.out⟩
        case measure => simp [intOf]; omega
      · have hkn : k = n := by omega
        subst hkn
        have hlt' : ¬ (k : Int) < (k : Int) := by omega
        have HT9 := Lib.hid (show zs.take k = zs by rw [List.take_of_length_le (by have := HZ.out; omega)])
        rw [HT9.out] at TA
        obtain ⟨a1, c1, a2, c2, a3, c3, rfl, rfl, rfl, own⟩ := TA.out.own3
        have OW := Lib.hid own
        have BR4 := Lib.hid (show Box wr w.heap.size 26 #[.int .i64 0, .slice none 0 0, .slice none 0 0, .slice none 0 0] from (BL.out.block w.heap.size (by omega)).trans BR3.out)
        obtain ⟨b0, b1, b2, b3⟩ := TA.out.b.four
        obtain ⟨r0, r1, r2, r3⟩ := BR4.out.four
        obtain ⟨g0, g1, g2, g3⟩ := BR4.out.free; have g4 := BR4.out.frozen 4
        clear own
        go_wp2
        refine bodyPost_ret (v := .tuple #[.agg #[.int .i64 room, .slice a1 _ c1, .slice a2 _ c2, .slice a3 _ c3], .bool true]) (by simp [results, Try.results24, go_sem, r0, r1, r2, r3]) rfl ⟨a1, c1, a2, c2, a3, c3, rfl, ⟨?_, ?_, ?_, OW.out.p12, OW.out.p13, OW.out.p23⟩, ?_⟩
        · refine own_touch OW.out.o1 (lo' := w.heap.size) (hi' := w.heap.size + 1) ?_ (by first | omega | (simp; done) | (simp; omega)) (by first | omega | (simp; done) | (simp; omega)) (by first | omega | (simp; done) | (simp; omega))
          (repeat (first | assumption | exact Touch.refl _ _ _ | (with_reducible refine Touch.stepS ?_ (by first | exact Nat.le_refl _ | (simp; done) | (simp; omega)) (by first | (simp; done) | (simp; omega)) _) | (with_reducible refine Touch.stepN ?_ _) | (with_reducible refine Touch.stepA ?_ _)))
        · refine own_touch OW.out.o2 (lo' := w.heap.size) (hi' := w.heap.size + 1) ?_ (by first | omega | (simp; done) | (simp; omega)) (by first | omega | (simp; done) | (simp; omega)) (by first | omega | (simp; done) | (simp; omega))
          (repeat (first | assumption | exact Touch.refl _ _ _ | (with_reducible refine Touch.stepS ?_ (by first | exact Nat.le_refl _ | (simp; done) | (simp; omega)) (by first | (simp; done) | (simp; omega)) _) | (with_reducible refine Touch.stepN ?_ _) | (with_reducible refine Touch.stepA ?_ _)))
        · refine own_touch OW.out.o3 (lo' := w.heap.size) (hi' := w.heap.size + 1) ?_ (by first | omega | (simp; done) | (simp; omega)) (by first | omega | (simp; done) | (simp; omega)) (by first | omega | (simp; done) | (simp; omega))
          (repeat (first | assumption | exact Touch.refl _ _ _ | (with_reducible refine Touch.stepS ?_ (by first | exact Nat.le_refl _ | (simp; done) | (simp; omega)) (by first | (simp; done) | (simp; omega)) _) | (with_reducible refine Touch.stepN ?_ _) | (with_reducible refine Touch.stepA ?_ _)))
        · have hx9 := HX.out
          (repeat (first | assumption | exact Ext.refl _ | (with_reducible refine Ext.stepS ?_ (by first | exact Nat.le_refl _ | (simp; done) | (simp; omega)) _) | (with_reducible refine Ext.stepN ?_ _) | (with_reducible refine Ext.stepD ?_) | (with_reducible refine Ext.stepA ?_ _)))
set_option maxRecDepth 100000 in
set_option maxHeartbeats 4000000 in
theorem c_spec_TopsOf (room : Int) (a : Option Addr) (n cap : Nat) (zs : List Int) (w : World) {c : PV} {b : Bool} (hv : topsV room zs = (c, b)) (hm : n ≤ 1048576) (h : Reads w a n (ints zs)) :
    Calls Try.prog 22 #[.int .i64 room, .slice a n cap] w (RetKPB 2 2 2 c b w) := by
  obtain ⟨hz, hrd⟩ := h.int
  have HZ := Lib.hid hz
  have HRD := Lib.hid hrd
  have H := Lib.hid h
  have HM := Lib.hid (show n ≤ maxLen by unfold maxLen; omega)
  have X1 := Lib.hid (show Ext w (w.alloc (.cells #[.int .i64 0, .slice none 0 0, .slice none 0 0, .slice none 0 0] 26)) by (repeat (first | assumption | exact Ext.refl _ | (with_reducible refine Ext.stepS ?_ (by first | exact Nat.le_refl _ | (simp; done) | (simp; omega)) _) | (with_reducible refine Ext.stepN ?_ _) | (with_reducible refine Ext.stepD ?_) | (with_reducible refine Ext.stepA ?_ _))))
  have X2 := Lib.hid (show Ext w ((w.alloc (.cells #[.int .i64 0, .slice none 0 0, .slice none 0 0, .slice none 0 0] 26)).alloc (.cells #[.int .i64 room, .slice none 0 0, .slice none 0 0, .slice none 0 0] 26)) by (repeat (first | assumption | exact Ext.refl _ | (with_reducible refine Ext.stepS ?_ (by first | exact Nat.le_refl _ | (simp; done) | (simp; omega)) _) | (with_reducible refine Ext.stepN ?_ _) | (with_reducible refine Ext.stepD ?_) | (with_reducible refine Ext.stepA ?_ _))))
  have BR := Lib.hid ((Box.alloc w #[.int .i64 0, .slice none 0 0, .slice none 0 0, .slice none 0 0] 26).past (.cells #[.int .i64 room, .slice none 0 0, .slice none 0 0, .slice none 0 0] 26))
  have BQ := Lib.hid (Box.alloc_at (w.alloc (.cells #[.int .i64 0, .slice none 0 0, .slice none 0 0, .slice none 0 0] 26)) #[.int .i64 room, .slice none 0 0, .slice none 0 0, .slice none 0 0] 26 (b := w.heap.size + 1) (by simp))
  clear h hz hrd hm
  cases h1 : inB 1 room 32
  · rw [topsV_1 h1] at hv
    cases hv
    have HT := Lib.hid (show inB 1 room 32 = false from h1)
    clear h1
    go_enter Try.func22, Try.ntmps22
    go_wp2_with fail
    refine (c_l00In_w room 1 32 _ HT.out).mono ?_; rintro e w1 ⟨rfl, rfl⟩
    obtain ⟨r0, r1, r2, r3⟩ := (Box.alloc w #[.int .i64 0, .slice none 0 0, .slice none 0 0, .slice none 0 0] 26).four
    go_wp2
    refine bodyPost_ret (v := .tuple #[.agg #[.int .i64 0, .slice none 0 0, .slice none 0 0, .slice none 0 0], .bool false]) (by simp [results, Try.results22, go_sem, r0, r1, r2, r3]) rfl (RetKPB.nil _ _ _ ?_)
    (repeat (first | assumption | exact Ext.refl _ | (with_reducible refine Ext.stepS ?_ (by first | exact Nat.le_refl _ | (simp; done) | (simp; omega)) _) | (with_reducible refine Ext.stepN ?_ _) | (with_reducible refine Ext.stepD ?_) | (with_reducible refine Ext.stepA ?_ _)))
  cases h2 : keysB zs
  · rw [topsV_2 h2] at hv
    cases hv
    have HT := Lib.hid (show inB 1 room 32 = true from h1)
    have HK := Lib.hid h2
    clear h1 h2
    go_enter Try.func22, Try.ntmps22
    go_wp2_with fail
    refine (c_l00In_w room 1 32 _ HT.out).mono ?_; rintro e w1 ⟨rfl, rfl⟩
    go_wp2_with fail
    refine (c_spec_l02Keys_of a n cap zs _ HK.out HM.out (H.out.on X1.out)).mono ?_; rintro e w2 ⟨rfl, rfl⟩
    obtain ⟨r0, r1, r2, r3⟩ := (Box.alloc w #[.int .i64 0, .slice none 0 0, .slice none 0 0, .slice none 0 0] 26).four
    go_wp2
    refine bodyPost_ret (v := .tuple #[.agg #[.int .i64 0, .slice none 0 0, .slice none 0 0, .slice none 0 0], .bool false]) (by simp [results, Try.results22, go_sem, r0, r1, r2, r3]) rfl (RetKPB.nil _ _ _ ?_)
    (repeat (first | assumption | exact Ext.refl _ | (with_reducible refine Ext.stepS ?_ (by first | exact Nat.le_refl _ | (simp; done) | (simp; omega)) _) | (with_reducible refine Ext.stepN ?_ _) | (with_reducible refine Ext.stepD ?_) | (with_reducible refine Ext.stepA ?_ _)))
  · rw [topsV_y h1 h2] at hv
    cases hv
    have HT := Lib.hid (show inB 1 room 32 = true from h1)
    have HK := Lib.hid h2
    have hb := inB_is.1 h1
    have HIN := Lib.hid (topsF_in hb.1 hb.2 zs)
    have hn256 : n ≤ 256 := by have := keysB_len h2; have := HZ.out; omega
    clear h1 h2 hb
    go_enter Try.func22, Try.ntmps22
    go_wp2_with fail
    refine (c_l00In_w room 1 32 _ HT.out).mono ?_; rintro e w1 ⟨rfl, rfl⟩
    go_wp2_with fail
    refine (c_spec_l02Keys_of a n cap zs _ HK.out HM.out (H.out.on X1.out)).mono ?_; rintro e w2 ⟨rfl, rfl⟩
    have X3 := Lib.hid X2.out
    have BR3 := Lib.hid BR.out
    have BQ3 := Lib.hid BQ.out
    go_wp2
    go_loopw [21] (fun i wr => ∃ k : Nat, k ≤ n ∧ i = .int .i64 k ∧ (∃ v1 v2 v3, TopAt 26 2 (w.heap.size + 1) wr (w.heap.size + 1) room (topsF room (zs.take k)).1 (topsF room (zs.take k)).2.1 (topsF room (zs.take k)).2.2 v1 v2 v3) ∧ Below (w.heap.size + 1) ((w.alloc (.cells #[.int .i64 0, .slice none 0 0, .slice none 0 0, .slice none 0 0] 26)).alloc (.cells #[.int .i64 room, .slice none 0 0, .slice none 0 0, .slice none 0 0] 26)) wr) (fun i _ => n - (intOf i).toNat)
    case atStart => exact ⟨0, Nat.zero_le _, rfl, ⟨_, _, _, TopAt.nil BQ3.out (Nat.le_refl _) (by have := BQ3.out.lt; omega)⟩, Below.refl _ _⟩
    case round =>
      obtain ⟨k, hk, rfl, ⟨v1, v2, v3, hta⟩, hbl⟩ := hrel
      have TA := Lib.hid hta
      have BL := Lib.hid hbl
      have HX := Lib.hid (show Ext w wr from Below.trans X3.out (Below.mono hbl (by omega)))
      clear hta hbl
      by_cases hlt : k < n
      · have hltI : (k : Int) < (n : Int) := by omega
        rcases HRD.out with h0 | ⟨b, off, rfl, hc⟩
        · omega
        have cz := HX.out.some (hc k hlt)
        obtain ⟨x, hx⟩ : ∃ x, zs[k]?.getD 0 = x := ⟨_, rfl⟩
        rw [hx] at cz
        have HS := Lib.hid (show topsF room (zs.take (k + 1)) = putT room (topsF room (zs.take k)).1 (topsF room (zs.take k)).2.1 (topsF room (zs.take k)).2.2 x by
          have h9 : k < zs.length := by have := HZ.out; omega
          rw [List.take_succ_eq_append_getElem h9, topsF_snoc, ← hx, List.getElem?_eq_getElem h9]; rfl)
        have HI9 := Lib.hid (HIN.out k (by have := HZ.out; omega))
        clear hc hx
        go_wp2_with (go_at_call 71; refine (c_l03Top (w.heap.size + 1) (w.heap.size + 1) room _ _ _ x (k : Int) _ HI9.out (by omega) TA.out).mono ?_; rintro e w3 ⟨rfl, hta, hbl⟩; have TB := Lib.hid hta; have BB := Lib.hid (BL.out.trans hbl); clear hta hbl)
        go_roundw
        case rel => exact ⟨k + 1, by omega, by go_num, by rw [HS.out]; exact TB.out, BB.out⟩
        case measure => simp [intOf]; omega
      · have hkn : k = n := by omega
        subst hkn
        have hlt' : ¬ (k : Int) < (k : Int) := by omega
        have HT9 := Lib.hid (show zs.take k = zs by rw [List.take_of_length_le (by have := HZ.out; omega)])
        rw [HT9.out] at TA
        obtain ⟨a1, c1, a2, c2, a3, c3, rfl, rfl, rfl, own⟩ := TA.out.own3
        have OW := Lib.hid own
        have BR4 := Lib.hid (show Box wr w.heap.size 26 #[.int .i64 0, .slice none 0 0, .slice none 0 0, .slice none 0 0] from (BL.out.block w.heap.size (by omega)).trans BR3.out)
        obtain ⟨b0, b1, b2, b3⟩ := TA.out.b.four
        obtain ⟨r0, r1, r2, r3⟩ := BR4.out.four
        obtain ⟨g0, g1, g2, g3⟩ := BR4.out.free; have g4 := BR4.out.frozen 4
        clear own
        go_wp2
        refine bodyPost_ret (v := .tuple #[.agg #[.int .i64 room, .slice a1 _ c1, .slice a2 _ c2, .slice a3 _ c3], .bool true]) (by simp [results, Try.results22, go_sem, r0, r1, r2, r3]) rfl ⟨a1, c1, a2, c2, a3, c3, rfl, ⟨?_, ?_, ?_, OW.out.p12, OW.out.p13, OW.out.p23⟩, ?_⟩
        · refine own_touch OW.out.o1 (lo' := w.heap.size) (hi' := w.heap.size + 1) ?_ (by first | omega | (simp; done) | (simp; omega)) (by first | omega | (simp; done) | (simp; omega)) (by first | omega | (simp; done) | (simp; omega))
          (repeat (first | assumption | exact Touch.refl _ _ _ | (with_reducible refine Touch.stepS ?_ (by first | exact Nat.le_refl _ | (simp; done) | (simp; omega)) (by first | (simp; done) | (simp; omega)) _) | (with_reducible refine Touch.stepN ?_ _) | (with_reducible refine Touch.stepA ?_ _)))
        · refine own_touch OW.out.o2 (lo' := w.heap.size) (hi' := w.heap.size + 1) ?_ (by first | omega | (simp; done) | (simp; omega)) (by first | omega | (simp; done) | (simp; omega)) (by first | omega | (simp; done) | (simp; omega))
          (repeat (first | assumption | exact Touch.refl _ _ _ | (with_reducible refine Touch.stepS ?_ (by first | exact Nat.le_refl _ | (simp; done) | (simp; omega)) (by first | (simp; done) | (simp; omega)) _) | (with_reducible refine Touch.stepN ?_ _) | (with_reducible refine Touch.stepA ?_ _)))
        · refine own_touch OW.out.o3 (lo' := w.heap.size) (hi' := w.heap.size + 1) ?_ (by first | omega | (simp; done) | (simp; omega)) (by first | omega | (simp; done) | (simp; omega)) (by first | omega | (simp; done) | (simp; omega))
          (repeat (first | assumption | exact Touch.refl _ _ _ | (with_reducible refine Touch.stepS ?_ (by first | exact Nat.le_refl _ | (simp; done) | (simp; omega)) (by first | (simp; done) | (simp; omega)) _) | (with_reducible refine Touch.stepN ?_ _) | (with_reducible refine Touch.stepA ?_ _)))
        · have hx9 := HX.out
          (repeat (first | assumption | exact Ext.refl _ | (with_reducible refine Ext.stepS ?_ (by first | exact Nat.le_refl _ | (simp; done) | (simp; omega)) _) | (with_reducible refine Ext.stepN ?_ _) | (with_reducible refine Ext.stepD ?_) | (with_reducible refine Ext.stepA ?_ _)))
end Go.Proofs.Ytfmjohpmfcmpoab
