/- b10At, b10Long; lists that B10Keys, B10List draw. -/
import Derived.Test.YtibldgcfplpdkaaSre
import Derived.Test.YtibldgcfplpdkaaFar
import Derived.WalkLawsBesides
namespace Go.Proofs.Ytibldgcfplpdkaa
open Go.ChangeShapes Go.WideShapes Go.ChangeAt Go.RowKit Go.Proofs.Ytibldgcfplpdkaa.Flo
set_option linter.unusedVariables false
set_option maxHeartbeats 1000000 in
theorem c_b10At_k (a : Option Addr) (len cap : Nat) (bs : List Int) (k n : Nat) (w : World) (h1 : 1 ≤ n) (hn : n ≤ 1048576) (hk : k ≤ 1048576) (h : Code w a len bs) :
    Calls Try.prog 25 #[.slice a len cap, .int .i64 k, .int .i64 n] w (RetK n w) := by
  by_cases h2 : n = 1
  · subst h2
    clear h
    go_enter Try.func25, Try.ntmps25
    go_wp2
    go_ret
    exact RetK.mk (by decide) (by decide)
  · have h3 : ¬ (n : Int) ≤ 1 := by omega
    by_cases hlt : k < len
    · obtain ⟨b, off, rfl⟩ := h.some (by omega)
      obtain ⟨z, z0, z1, hz⟩ := h.at hlt
      have hl := h.le
      have h4 : (k : Int) < (len : Int) := by omega
      clear h h1 h2
      go_enter Try.func25, Try.ntmps25
      go_wp2
      go_ret
      exact RetK.mk (by first | exact Int.emod_nonneg _ (by omega) | omega) (by first | exact Int.emod_lt_of_pos _ (by omega) | omega)
    · have hl := h.le
      have h4 : ¬ (k : Int) < (len : Int) := by omega
      have h5 : (k : Int) ≤ 1048576 := by omega
      clear h h1 h2
      go_enter Try.func25, Try.ntmps25
      go_wp2
      go_ret
      exact RetK.mk (by first | exact Int.emod_nonneg _ (by omega) | omega) (by first | exact Int.emod_lt_of_pos _ (by omega) | omega)
theorem c_b10Long_of (a a' : Option Addr) (len cap len' cap' : Nat) (w : World) (b : Bool) (hb : (decide (1048576 < (len : Int)) || decide (1048576 < (len' : Int))) = b) : Calls Try.prog 24 #[.slice a len cap, .slice a' len' cap'] w fun e w' => e = .returned (.bool b) ∧ w = w' := by
  subst hb
  by_cases h : 1048576 < (len : Int)
  · have HD := Lib.hid (decide_eq_true h)
    go_enter Try.func24, Try.ntmps24
    go_wp2
    go_ret
    exact ⟨by rw [HD.out]; rfl, rfl⟩
  · have HD := Lib.hid (decide_eq_false h)
    go_enter Try.func24, Try.ntmps24
    go_wp2
    go_ret
    exact ⟨by rw [HD.out]; rfl, rfl⟩
/-- quarters -/
def qv (k : Nat) : Nat := (floatBits .quo .f32 (floatOfInt .f32 ((k : Int) - 16)) 1082130432).getD 0
def qOk (k : Nat) : Bool := (floatBits .quo .f32 (floatOfInt .f32 ((k : Int) - 16)) 1082130432 == some (qv k)) && (isFin .f32 (qv k) && decide (qv k < 4294967296))
theorem qAll : (List.range 33).all qOk = true := by decide +kernel
theorem qv_all {k : Nat} (h : k < 33) : floatBits .quo .f32 (floatOfInt .f32 ((k : Int) - 16)) 1082130432 = some (qv k) ∧ isFin .f32 (qv k) = true ∧ qv k < 4294967296 := by
  have := List.all_eq_true.1 qAll k (List.mem_range.2 h)
  unfold qOk at this
  simp only [Bool.and_eq_true, beq_iff_eq, decide_eq_true_eq] at this
  exact ⟨this.1, this.2.1, this.2.2⟩
def RetGenF (n : Nat) (P : List Nat → Prop) (w : World) (e : Ending) (w' : World) : Prop :=
  ∃ a c zs, e = .returned (.slice a n c) ∧ zs.length = n ∧ P zs ∧ Own 37 w' w.heap.size w'.heap.size a n c (flos zs) ∧ Ext w w'
def QuaOk (zs : List Nat) : Prop := ∀ z ∈ zs, ∃ k, k < 33 ∧ z = qv k
theorem QuaOk.fin {zs : List Nat} (h : QuaOk zs) : (∀ z ∈ zs, isFin .f32 z = true) ∧ ∀ z ∈ zs, z < 4294967296 :=
  ⟨fun z hz => by obtain ⟨k, hk, rfl⟩ := h z hz; exact (qv_all hk).2.1, fun z hz => by obtain ⟨k, hk, rfl⟩ := h z hz; exact (qv_all hk).2.2⟩
theorem flos_app (zs : List Nat) (x : Nat) : flos (zs ++ [x]) = flos zs ++ [.float .f32 x] := by unfold flos; rw [List.map_append]; rfl
theorem flR_q {w : World} {op : BinOp} {k : FloatKind} {x y r : Nat} (h : floatBits op k x y = some r) : flR w op k x y = r := by unfold flR; rw [h]; rfl
theorem flD_q {op : BinOp} {k : FloatKind} {x y r : Nat} (h : floatBits op k x y = some r) : flD op k x y = 0 := by unfold flD; rw [h]; rfl
set_option maxRecDepth 100000 in
set_option maxHeartbeats 2000000 in
theorem c_B10List (a : Option Addr) (len cap : Nat) (bs : List Int) (N : Nat) (w : World) (hN : N ≤ 1024) (h : Code w a len bs) :
    Calls Try.prog 26 #[.slice a len cap, .int .i64 N] w (RetGenF N QuaOk w) := by
  obtain ⟨i0, hi, hz0, hz1, hz2⟩ := info_parts info_f32
  have HH := Lib.hid h
  clear h
  go_enter Try.func26, Try.ntmps26
  go_wp2_with fail
  refine (c_l00From a len cap bs _ HH.out).mono ?_; rintro e wb ⟨rfl, hs, hx, hsz⟩
  have HS0 := Lib.hid (hs.on (Ext.alloc _ (.cells #[] 37)))
  have HX0 := Lib.hid (hx.trans (Ext.alloc _ (.cells #[] 37)))
  have HZ := Lib.hid hsz
  have HO0 := Lib.hid (World.ownsRow_made (base := wb.heap.size) (e := 37) (size := 1) wb #[] 0 (Nat.le_refl _) (Nat.zero_le _) rfl)
  clear hs hx hsz
  go_wp2
  go_loopw [1, 6] (fun x v wr => ∃ (k j : Nat) (zs : List Nat), x = .int .i64 (k : Int) ∧ k + j = N ∧ zs.length = j ∧ QuaOk zs ∧ wr.ownsRow wb.heap.size 37 1 v j (flos zs) ∧ SrcAt wr w.heap.size a len cap bs (2 * j) ∧ Ext w wr) (fun x _ _ => (intOf x).toNat)
  case atStart => exact ⟨N, 0, [], rfl, rfl, rfl, fun z hz => (by cases hz), HO0.out, HS0.out, HX0.out⟩
  case round =>
    obtain ⟨k, j, zs, rfl, hkj, hzl, hd, hown, hsrc, hext⟩ := hrel
    have HO := Lib.hid hown
    have HS := Lib.hid hsrc
    have HX := Lib.hid hext
    have HD := Lib.hid hd
    have HZL := Lib.hid hzl
    have hbs : wb.heap.size ≤ wr.heap.size := by
      rcases hown.2 with ⟨rfl, _⟩ | ⟨g9, c9, r9, rfl, h91, h92, _⟩
      · have := HS.out.lt; have := HZ.out; omega
      · have := (hown.lt g9 rfl).2; omega
    have HBS := Lib.hid hbs
    clear hown hsrc hext hd hzl hbs
    by_cases hk : k = 0
    · have hkI : ¬ (0 : Int) < (k : Int) := by omega
      obtain ⟨a1, c1, rfl, ho⟩ := Own.of_row (e := 0) HO.out
      have O1 := Lib.hid ho
      have hjN : j = N := by omega
      subst hjN
      clear ho hk hkj
      go_wp2
      go_ret
      exact ⟨a1, c1, zs, rfl, HZL.out, HD.out, O1.out.wide (by have := HZ.out; omega) (Nat.le_refl _), HX.out⟩
    · obtain ⟨k, rfl⟩ : ∃ k', k = k' + 1 := ⟨k - 1, by omega⟩
      have hkI : (0 : Int) < ((k + 1 : Nat) : Int) := by omega
      clear hk
      go_wp2_with fail
      refine (c_pick _ a len cap bs (2 * j) 33 _ (by omega) (by decide) (by decide) HS.out).mono ?_; rintro e w2 ⟨y, hy, rfl, hs, ht⟩
      have HS2 := Lib.hid (hs.on (Ext.alloc _ (.cells #[.float .f32 (qv y)] 37)))
      have HSS := Lib.hid hs
      have HX2 := Lib.hid (Touch.ext HX.out ht (Nat.le_refl _))
      have HO2 := Lib.hid (owns_beside HO.out ht (by rw [HZ.out]; exact Nat.le_refl _))
      have HBS2 := Lib.hid (Nat.le_trans HBS.out ht.size)
      have HQ := Lib.hid (qv_all hy)
      have HY := Lib.hid hy
      have hyI : (y : Int) ≤ 32 := by omega
      have hq : ∀ wx : World, (binOp .quo 37 (.float .f32 (floatOfInt .f32 ((y : Int) - 16))) (.float .f32 1082130432)).run Try.prog wx = .ok (.float .f32 (qv y)) wx := fun wx => by
        rw [run_fl_quo, flR_q HQ.out.1, flD_q HQ.out.1, World.drewN_zero]
      clear hs ht hy
      go_wp2_with (at_builtin; refine wpList_append_own _ rfl _ _ 33 rfl wb.heap.size 37 i0 (.float .f32 0) 1 4 Try.underlying33 hi hz0 hz1 hz2 rfl (by decide) _ _ _ rfl (HO2.out.alloc _) ⟨_, 0, none⟩ 1 1 [.float .f32 (qv y)] rfl rfl (one_cell_at _ _ _) (by intro u hu; simp at hu; subst hu; rfl) (by unfold maxLen; omega) (by omega) (by have := HBS2.out; first | (simp; omega) | omega) ?_; intro v' w1 hown' hgrow _; have HO' := Lib.hid hown'; have HG := Lib.hid (grown_low HBS2.out HO2.out hgrow); have HX' := Lib.hid (show Ext w w1 from Below.trans HX2.out (Below.mono HG.out (by have := HZ.out; omega))); have HS' := Lib.hid (HSS.out.low HG.out (by have := HZ.out; omega)); clear hown' hgrow)
      go_roundw
      case rel => exact ⟨k, j + 1, zs ++ [qv y], by go_num, by omega, by rw [List.length_append, List.length_singleton, HZL.out], fun z hz => (List.mem_append.1 hz).elim (HD.out z) (fun h => ⟨y, HY.out, by simpa using h⟩), by rw [flos_app]; exact HO'.out, HS'.out.more (by omega), HX'.out⟩
      case measure => simp [intOf]
end Go.Proofs.Ytibldgcfplpdkaa
