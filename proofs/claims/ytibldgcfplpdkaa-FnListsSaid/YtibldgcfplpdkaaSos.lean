/- Lists of finite floats in ascending order: the other side (l05Sorted, SortedOf). -/
import Derived.Test.YtibldgcfplpdkaaSor
namespace Go.Proofs.Ytibldgcfplpdkaa
open Go.ChangeShapes Go.WideShapes Go.ChangeAt Go.RowKit Go.Proofs.Ytibldgcfplpdkaa.Smg Go.Proofs.Ytibldgcfplpdkaa.Flo
set_option linter.unusedVariables false
attribute [local go_sem] run_store_float
set_option maxRecDepth 100000 in
set_option maxHeartbeats 4000000 in
theorem c_spec_l05Sorted (a : Option Addr) (n cap : Nat) (zs : List Nat) (w : World) (h0 : 0 < n) (hn : n ≤ 1048576) (hf : finB zs = true) (h : Reads w a n (flos zs)) :
    Calls Try.prog 249 #[.slice a n cap] w (RetS 37 n (flos (sortF zs)) w) := by
  obtain ⟨hl, hr⟩ := h
  rcases hr with h1 | ⟨b0, off, rfl, hc⟩
  · omega
  have hz : zs.length = n := by rw [← flos_length]; exact hl
  have HC := Lib.hid hc
  have HF := Lib.hid hf
  have HZ := Lib.hid hz
  have hn' : (n : Int) ≤ 1048576 := by omega
  obtain ⟨i0, hi, hz0, hz1, hz2⟩ := info_parts info_f32
  clear hc hf hz hl
  go_enter Try.func249, Try.ntmps249
  go_wp2_with (at_builtin; refine wpList_append_own _ rfl _ _ 33 rfl w.heap.size 37 i0 (.float .f32 0) 1 4 Try.underlying33 hi hz0 hz1 hz2 rfl (by decide) _ _ _ rfl (World.ownsRow_made w #[] 0 (Nat.le_refl _) (Nat.zero_le _) rfl) ⟨b0, off, none⟩ n cap (flos zs) rfl ?qc1 ?qc2 ?qc3 ?qc4 ?qc5 ?qc6 ?_)
  case qc1 => rw [flos_length, HZ.out]; simp
  case qc2 =>
    intro j u hj
    have hjn : j < n := by
      have := (List.getElem?_eq_some_iff.1 hj).1
      rw [flos_length, HZ.out] at this
      exact this
    rw [Addr.add_lit]
    refine Lib.cell?_alloc_some _ ?_
    rw [HC.out j hjn]
    exact hj
  case qc3 => intro u hu; obtain ⟨x, _, rfl⟩ := List.mem_map.1 hu; rfl
  case qc4 => unfold maxLen; omega
  case qc5 => omega
  case qc6 => simp
  intro v' w1 hown hgrow hnil
  have hx1 : Ext w w1 := ((Below.refl _ w).alloc (Nat.le_refl _) _).grown hgrow (by simp) (by intro k hk; simp [Value.ownBlock] at hk; omega)
  have hown : w1.ownsRow w.heap.size 37 1 v' n (valsG (Value.float .f32) (tagF zs 0) n) := by rw [← HZ.out, valsG_flo, HZ.out]; simpa using hown
  obtain ⟨b, c, f, hv, hb, hc, hcm, hrow⟩ := rowG_owns hown h0
  subst hv
  have HX := Lib.hid hx1
  have HR0 := Lib.hid hrow
  have HBB := Lib.hid hb
  clear hown hgrow hx1 hrow hnil hb
  go_wp2
  go_loopw [12] (fun i wr => ∃ (I : Nat) (g : Nat → Nat × Nat), I ≤ n ∧ i = .int .i64 I ∧ Shuf 0 I (tagF zs 0) g ∧ SortedOn (TL leF) g 0 I ∧ wr.rowIs b 37 c (rowG (Value.float .f32) n g f) ∧ Touch b (b + 1) w1 wr) (fun i _ => n - (intOf i).toNat)
  case atStart => exact ⟨0, _, Nat.zero_le _, rfl, .refl _, SortedOn.one _ (by omega), HR0.out, Touch.refl _ _ _⟩
  case round =>
    obtain ⟨I, g, hI, rfl, hsh, hso, hrow, ht⟩ := hrel
    have HR := Lib.hid hrow
    have HT := Lib.hid ht
    have HSH := Lib.hid hsh
    have HSO := Lib.hid hso
    clear hrow ht hsh hso
    by_cases hlt : I < n
    · have hlt' : (I : Int) < (n : Int) := by omega
      go_wp2
      go_loopw [5] (fun j wq => ∃ J : Nat, J ≤ I ∧ j = .int .i64 J ∧ (J < I → TL leF (g I) (g J)) ∧ wq.rowIs b 37 c (rowG (Value.float .f32) n (rotF g J I (I + 1)) f) ∧ Touch b (b + 1) w1 wq) (fun j _ => (intOf j).toNat)
      case atStart => exact ⟨I, Nat.le_refl _, rfl, fun h => by omega, by rw [rot_none_l]; exact HR.out, HT.out⟩
      case round =>
        obtain ⟨J, hJ, rfl, hL, hrow, ht⟩ := hrel
        have HRQ := Lib.hid hrow
        have HTQ := Lib.hid ht
        have HL := Lib.hid hL
        clear hrow ht hL
        have HSQ := Lib.hid (show Shuf 0 (I + 1) (tagF zs 0) (rotF g J I (I + 1)) from (HSH.out.mono (Nat.le_refl _) (by omega)).trans (by have := rot_down_shuf g I (lo := 0) (hi := I + 1) (Nat.le_refl _) (I - J) (by omega) (by omega); rwa [show I - (I - J) = J by omega] at this))
        have HTG := Lib.hid (show ∀ k, k < I → (g k).2 < (g I).2 from fun k hk => by
          rw [HSH.out.out I (by omega)]
          exact HSH.out.all (fun x => x.2 < I) (fun q h1 h2 => h2) k (Nat.zero_le _) hk)
        have HFN := Lib.hid (show ∀ k, k ≤ I → isFin .f32 (g k).1 = true from fun k hk => by
          by_cases e : k = I
          · rw [e, HSH.out.out I (by omega)]; exact finB_at HF.out (by rw [HZ.out]; omega)
          · exact HSH.out.all (fun x => isFin .f32 x.1 = true) (fun q h1 h2 => finB_at HF.out (by rw [HZ.out]; omega)) k (Nat.zero_le _) (by omega))
        by_cases hJ0 : J = 0
        · subst hJ0
          have HSS := Lib.hid (show SortedOn (TL leF) (rotF g 0 I (I + 1)) 0 (I + 1) from down_sorted (TL.trans leF_tr) HSO.out (Nat.le_refl _) (by omega) (fun h => by omega) (fun h => HL.out h))
          go_wp2
          go_quiet (fail)
          go_wp2
          go_roundw
          case rel => exact ⟨I + 1, _, hlt, by first | rfl | go_num, HSQ.out, HSS.out, by first | exact HRQ.out | exact rowD HRQ.out _, by first | exact HTQ.out | exact touchN HTQ.out _⟩
          case measure => simp [intOf]; omega
        · obtain ⟨i, hi'⟩ : ∃ i, J = i + 1 := ⟨J - 1, by omega⟩
          have r1 : (rotF g J I (I + 1) J).1 = (g I).1 := by unfold rotF; rw [if_pos (by omega)]; congr 2; omega
          have r2 : (rotF g J I (I + 1) i).1 = (g i).1 := by unfold rotF; rw [if_neg (by omega), if_neg (by omega)]
          obtain ⟨x, hx⟩ : ∃ x, (g I).1 = x := ⟨_, rfl⟩
          obtain ⟨y, hy⟩ : ∃ y, (g i).1 = y := ⟨_, rfl⟩
          have c1 := HRQ.out.cell (i := J) (by omega)
          have c2 := HRQ.out.cell (i := i) (by omega)
          rw [rowG_at (by omega), r1, hx] at c1
          rw [rowG_at (by omega), r2, hy] at c2
          have f1 := HRQ.out.frozen J
          have f2 := HRQ.out.frozen i
          have e2 : (J : Int) - 1 = (i : Int) := by omega
          have e3 : (0 : Int) < (J : Int) := by omega
          have e4 : 0 < J := by omega
          have e5 : (i : Int) < (n : Int) := by omega
          have e6 : (J : Int) < (n : Int) := by omega
          have ne1 : J ≠ i := by omega
          have ne2 : i ≠ J := by omega
          have kl := key_lt (x := x) (y := y) (by rw [← hx]; exact HFN.out I (Nat.le_refl _)) (by rw [← hy]; exact HFN.out i (by omega))
          have HLE := Lib.hid (show leF (g i).1 (g I).1 = decide (fkey y ≤ fkey x) by rw [hx, hy]; rfl)
          have HI2 := Lib.hid hi'
          by_cases hxy : fkey x < fkey y
          · rw [decide_eq_true hxy] at kl
            have HRW := Lib.hid (rowG_swap HRQ.out (i := J) (j := i) (by omega) (by omega) (by rw [r1, hx]) (by rw [r2, hy]) ne1)
            have HRE := Lib.hid (show swapF (rotF g J I (I + 1)) J i = rotF g i I (I + 1) by have := rot_down g J I (by omega) hJ; rwa [show J - 1 = i by omega] at this)
            have HLL := Lib.hid (show TL leF (g I) (g i) from TL.of_lt leF_tot (by rw [HLE.out]; exact decide_eq_false (by omega)))
            clear hi' r1 r2 hx hy hxy
            go_wp2
            go_quiet (fail)
            go_wp2
            go_roundw
            case rel => exact ⟨i, by omega, by first | rfl | go_num, fun _ => HLL.out, by rw [← HRE.out]; first | exact HRW.out | exact rowD HRW.out _ | skip, by first | exact touch1 (touch1 HTQ.out _ _) _ _ | exact touch1 (touch1 (touchN HTQ.out _) _ _) _ _⟩
            case measure => simp [intOf]; omega
          · rw [decide_eq_false hxy] at kl
            have HSS := Lib.hid (show SortedOn (TL leF) (rotF g J I (I + 1)) 0 (I + 1) from down_sorted (TL.trans leF_tr) HSO.out (Nat.zero_le _) hJ (fun h => by rw [show J - 1 = i by omega]; exact TL.of_tag (by rw [HLE.out]; exact decide_eq_true (by omega)) (HTG.out i (by omega))) (fun h => HL.out h))
            clear hi' r1 r2 hx hy hxy
            go_wp2
            go_quiet (fail)
            go_wp2
            go_roundw
            case rel => exact ⟨I + 1, _, hlt, by first | rfl | go_num, HSQ.out, HSS.out, by first | exact HRQ.out | exact rowD HRQ.out _, by first | exact HTQ.out | exact touchN HTQ.out _⟩
            case measure => simp [intOf]; omega
    · obtain rfl : I = n := by omega
      have HE := Lib.hid (sortF_of HZ.out HSH.out HSO.out)
      go_wp2
      go_ret
      exact ⟨_, _, rfl, by rw [← HE.out]; exact own_rowF hc HBB.out HR.out, Touch.ext HX.out HT.out HBB.out⟩
end Go.Proofs.Ytibldgcfplpdkaa
