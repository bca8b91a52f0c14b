/- OrderByHash: the other side. -/
import Derived.Test.YtjnhflpoddpfnabObh
namespace Go.Proofs.Ytjnhflpoddpfnab
open Go.ChangeShapes Go.WideShapes Go.ChangeAt Go.RowKit Go.Proofs.Ytjnhflpoddpfnab.Smg
set_option linter.unusedVariables false
theorem leI_at {hs : List Int} {X Y : Nat} {x y : Int} (hx : hs[X]?.getD 0 = x) (hy : hs[Y]?.getD 0 = y) : leI hs (Y : Int) (X : Int) = decide (y ≤ x) := by
  subst hx; subst hy
  unfold leI atI
  simp only [Int.toNat_natCast]
set_option maxRecDepth 100000 in
set_option maxHeartbeats 4000000 in
theorem c_spec_OrderByHash (a : Option Addr) (n cap : Nat) (zs : List Int) (salt : Int) (w : World) (hm : n ≤ maxLen) (h : Reads w a n (ints zs)) :
    Calls Try.prog 73 #[.slice a n cap, .int .i64 salt] w (RetSB 2 (ordR zs salt).length (ints (ordR zs salt)) (keysB zs && keyB salt) w) := by
  have H := Lib.hid h
  have hnz := h.int.1
  subst hnz
  obtain ⟨i0, hi, hz0, hz1, hz2⟩ := info_parts info_i64
  clear h
  cases hk : keysB zs
  · have HK := Lib.hid hk
    rw [ordR_no (by rw [hk]; rfl)]
    clear hk
    go_enter Try.func73, Try.ntmps73
    go_wp2_with (go_at_call 76; refine (c_spec_l02Keys_of _ _ _ zs _ HK.out hm H.out).mono ?_; rintro e w' ⟨rfl, rfl⟩)
    go_ret2
    exact RetSB.nil _ _
  cases hs : keyB salt
  · have HK := Lib.hid hk
    have HS := Lib.hid hs
    rw [ordR_no (by rw [hk, hs]; rfl)]
    clear hk hs
    go_enter Try.func73, Try.ntmps73
    go_wp2_with (first | (go_at_call 76; refine (c_spec_l02Keys_of _ _ _ zs _ HK.out hm H.out).mono ?_; rintro e w' ⟨rfl, rfl⟩) | (go_at_call 63; refine (c_spec_l02Key_at salt _ HS.out).mono ?_; rintro e w' ⟨rfl, rfl⟩))
    go_ret2
    exact RetSB.nil _ _
  have HK := Lib.hid hk
  have HS := Lib.hid hs
  have hzl := keysB_len hk
  rw [ordR_yes (by rw [hk, hs]; rfl), ordZ_length, rowZ_length]
  clear hk hs
  go_enter Try.func73, Try.ntmps73
  go_wp2_with fail
  refine (c_spec_l02Keys_of _ _ _ zs _ HK.out hm H.out).mono ?_; rintro e w' ⟨rfl, rfl⟩
  go_wp2_with fail
  refine (c_spec_l02Key_at salt _ HS.out).mono ?_; rintro e w' ⟨rfl, rfl⟩
  go_wp2_with fail
  refine (c_spec_l02Row _ _ _ zs salt _ HK.out HS.out H.out).mono ?_; rintro e u1 ⟨a', c', rfl, o', x'⟩
  have O1 := Lib.hid o'
  have X1 := Lib.hid x'
  clear o' x'
  go_wp2
  go_loopw [7, 8] (fun v i wr => ∃ (I : Nat) (g : Nat → Int × Nat), I ≤ zs.length ∧ i = .int .i64 I ∧ Shuf 0 I (tagF (marks 0 zs.length) 0) g ∧ SortedOn (TL (leI (rowZ zs salt))) g 0 I ∧ wr.ownsRow u1.heap.size 2 1 v I (valsG (Value.int .i64) g I) ∧ Ext u1 wr) (fun _ i _ => zs.length - (intOf i).toNat)
  case atStart => exact ⟨0, tagF (marks 0 zs.length) 0, Nat.zero_le _, rfl, .refl _, SortedOn.one _ (by omega), World.ownsRow_made _ _ _ (Nat.le_refl _) (Nat.zero_le _) rfl, Ext.alloc _ _⟩
  case round =>
    obtain ⟨I, g, hI, rfl, hsh, hso, hown, hext⟩ := hrel
    have HO := Lib.hid hown
    have HE := Lib.hid hext
    have HSH := Lib.hid hsh
    have HSO := Lib.hid hso
    clear hown hext hsh hso
    have HGI := Lib.hid (show ∀ k, k < zs.length → (tagF (marks 0 zs.length) 0 k) = ((k : Int), k) from fun k hk => by
      unfold tagF
      rw [marks_get 0 zs.length k hk, Nat.zero_add])
    by_cases hlt : I < zs.length
    · have HIV := Lib.hid (show (g I).1 = (I : Int) by rw [HSH.out.out I (by omega), HGI.out I hlt])
      have hlt' : (I : Int) < (zs.length : Int) := by omega
      have HOR := Lib.hid O1.out.reads
      go_wp2_with (at_builtin; refine wpList_append_own _ rfl _ _ 22 rfl u1.heap.size 2 i0 (.int .i64 0) 1 8 Try.underlying22 hi hz0 hz1 hz2 rfl (by decide) _ _ _ rfl (HO.out.alloc _) ⟨_, 0, none⟩ 1 1 [.int .i64 (I : Int)] rfl rfl ?c1 ?c2 ?c3 ?c4 ?c5 ?_)
      case c1 => exact one_cell_at _ _ _
      case c2 => intro u hu; simp at hu; subst hu; rfl
      case c3 => unfold maxLen; omega
      case c4 => omega
      case c5 => have := HE.out.size; simp; omega
      intro v' w1 hown' hgrow _
      have hE' := app_step HE.out HO.out hgrow
      rw [show valsG (Value.int .i64) g I ++ [Value.int .i64 (I : Int)] = valsG (Value.int .i64) g (I + 1) by rw [valsG_snoc, HIV.out]] at hown'
      obtain ⟨b, c, f, hv, hb, hc, hcm, hrow⟩ := rowG_owns hown' (Nat.succ_pos I)
      subst hv
      have HE' := Lib.hid hE'
      have HR0 := Lib.hid hrow
      clear hown' hgrow hE' hrow
      obtain ⟨n1, hn1⟩ : ∃ n1, I + 1 = n1 := ⟨_, rfl⟩
      rw [hn1] at HR0 hc ⊢
      have HN1 := Lib.hid hn1
      have hn1b : n1 ≤ 256 := by omega
      clear hn1
      go_wp2
      go_loopw [9] (fun j wq => ∃ J : Nat, J ≤ I ∧ j = .int .i64 J ∧ (J < I → TL (leI (rowZ zs salt)) (g I) (g J)) ∧ wq.rowIs b 2 c (rowG (Value.int .i64) n1 (rotF g J I (I + 1)) f) ∧ Touch b (b + 1) w1 wq) (fun j _ => (intOf j).toNat)
      case atStart => exact ⟨I, Nat.le_refl _, rfl, fun h => by omega, by rw [rot_none_l]; exact HR0.out, Touch.refl _ _ _⟩
      case round =>
        obtain ⟨J, hJ, rfl, hL, hrow, ht⟩ := hrel
        have HRQ := Lib.hid hrow
        have HTQ := Lib.hid ht
        have HL := Lib.hid hL
        clear hrow ht hL
        have hn1' := HN1.out
        have HXE := Lib.hid (show Ext u1 wr from Touch.ext HE'.out HTQ.out hb)
        have HROW := Lib.hid (show ∀ X : Nat, X < zs.length → ∃ rb off, a' = some ⟨rb, off, none⟩ ∧ wr.cell? ⟨rb, off + X, none⟩ = some (.int .i64 ((rowZ zs salt)[X]?.getD 0)) from fun X hX => by
          have hr := (O1.out.reads.on HXE.out).int
          rw [rowZ_length] at hr
          rcases hr.2 with h0 | ⟨rb, off, h1, h2⟩
          · omega
          · exact ⟨rb, off, h1, h2 X hX⟩)
        have HAL := Lib.hid (show ∀ k, k < n1 → ∃ X : Nat, (g k).1 = (X : Int) ∧ X < zs.length from fun k hk => by
          by_cases e : k = I
          · exact ⟨I, by rw [e]; exact HIV.out, hlt⟩
          · exact HSH.out.all (fun x => ∃ X : Nat, x.1 = (X : Int) ∧ X < zs.length) (fun q h1 h2 => ⟨q, by rw [HGI.out q (by omega)], by omega⟩) k (Nat.zero_le _) (by omega))
        have HSQ := Lib.hid (show Shuf 0 (I + 1) (tagF (marks 0 zs.length) 0) (rotF g J I (I + 1)) from (HSH.out.mono (Nat.le_refl _) (by omega)).trans (by have := rot_down_shuf g I (lo := 0) (hi := I + 1) (Nat.le_refl _) (I - J) (by omega) (by omega); rwa [show I - (I - J) = J by omega] at this))
        have HTG := Lib.hid (show ∀ k, k < I → (g k).2 < (g I).2 from fun k hk => by
          rw [HSH.out.out I (by omega), HGI.out I hlt]
          exact HSH.out.all (fun x => x.2 < I) (fun q h1 h2 => by rw [HGI.out q (by omega)]; exact h2) k (Nat.zero_le _) hk)
        by_cases hJ0 : J = 0
        · subst hJ0
          have HSS := Lib.hid (show SortedOn (TL (leI (rowZ zs salt))) (rotF g 0 I (I + 1)) 0 (I + 1) from down_sorted (TL.trans (leI_tr _)) HSO.out (Nat.le_refl _) (by omega) (fun h => by omega) (fun h => HL.out h))
          have HOF := Lib.hid (fun k => show (wr.drewN k).ownsRow u1.heap.size 2 1 (.slice (some ⟨b, 0, none⟩) n1 c) (I + 1) (valsG (Value.int .i64) (rotF g 0 I (I + 1)) (I + 1)) from by have q := owns_rowG (lo := u1.heap.size) hc hcm hb (rowD HRQ.out k); have e := HN1.out; subst e; exact q)
          go_wp2
          go_quiet (fail)
          go_wp2
          go_roundw
          case rel => exact ⟨I + 1, _, hlt, by first | rfl | go_num, HSQ.out, HSS.out, by first | exact HOF.out _ | exact HOF.out 0, by first | exact HXE.out | exact HXE.out.stepN _⟩
          case measure => simp [intOf]; omega
        · obtain ⟨i, hi'⟩ : ∃ i, J = i + 1 := ⟨J - 1, by omega⟩
          obtain ⟨X, hX, hXl⟩ := HAL.out I (by omega)
          obtain ⟨Y, hY, hYl⟩ := HAL.out i (by omega)
          obtain ⟨rb, off, ha', hrX⟩ := HROW.out X hXl
          obtain ⟨rb2, off2, ha2, hrY⟩ := HROW.out Y hYl
          rw [ha'] at ha2
          cases ha2
          have r1 : (rotF g J I (I + 1) J).1 = (X : Int) := by rw [← hX]; unfold rotF; rw [if_pos (by omega)]; congr 2; omega
          have r2 : (rotF g J I (I + 1) i).1 = (Y : Int) := by rw [← hY]; unfold rotF; rw [if_neg (by omega), if_neg (by omega)]
          have c1 := HRQ.out.cell (i := J) (by omega)
          have c2 := HRQ.out.cell (i := i) (by omega)
          rw [rowG_at (by omega), r1] at c1
          rw [rowG_at (by omega), r2] at c2
          have f1 := HRQ.out.frozen J
          have f2 := HRQ.out.frozen i
          have e2 : (J : Int) - 1 = (i : Int) := by omega
          have e3 : (0 : Int) < (J : Int) := by omega
          have e4 : 0 < J := by omega
          have e5 : (i : Int) < (n1 : Int) := by omega
          have e6 : (J : Int) < (n1 : Int) := by omega
          have e7 : (X : Int) < (zs.length : Int) := by omega
          have e8 : (Y : Int) < (zs.length : Int) := by omega
          have ne1 : J ≠ i := by omega
          have ne2 : i ≠ J := by omega
          obtain ⟨x, hx⟩ : ∃ x, (rowZ zs salt)[X]?.getD 0 = x := ⟨_, rfl⟩
          obtain ⟨y, hy⟩ : ∃ y, (rowZ zs salt)[Y]?.getD 0 = y := ⟨_, rfl⟩
          rw [hx] at hrX
          rw [hy] at hrY
          have HLE := Lib.hid (show leI (rowZ zs salt) (g i).1 (g I).1 = decide (y ≤ x) by rw [hX, hY]; exact leI_at hx hy)
          have HI2 := Lib.hid hi'
          subst ha'
          by_cases hxy : x < y
          · have HRW := Lib.hid (rowG_swap HRQ.out (i := J) (j := i) (by omega) (by omega) r1 r2 ne1)
            have HRE := Lib.hid (show swapF (rotF g J I (I + 1)) J i = rotF g i I (I + 1) by have := rot_down g J I (by omega) hJ; rwa [show J - 1 = i by omega] at this)
            have HLL := Lib.hid (show TL (leI (rowZ zs salt)) (g I) (g i) from TL.of_lt (leI_tot _) (by rw [HLE.out]; exact decide_eq_false (by omega)))
            clear hi' hX hY r1 r2 hx hy
            go_wp2
            go_quiet (fail)
            go_wp2
            go_roundw
            case rel => exact ⟨i, by omega, by first | rfl | go_num, fun _ => HLL.out, by rw [← HRE.out]; first | exact HRW.out | exact rowD HRW.out _ | skip, by first | exact touch1 (touch1 HTQ.out _ _) _ _ | exact touch1 (touch1 (touchN HTQ.out _) _ _) _ _⟩
            case measure => simp [intOf]; omega
          · have HSS := Lib.hid (show SortedOn (TL (leI (rowZ zs salt))) (rotF g J I (I + 1)) 0 (I + 1) from down_sorted (TL.trans (leI_tr _)) HSO.out (Nat.zero_le _) hJ (fun h => by rw [show J - 1 = i by omega]; exact TL.of_tag (by rw [HLE.out]; exact decide_eq_true (by omega)) (HTG.out i (by omega))) (fun h => HL.out h))
            have HOF := Lib.hid (fun k => show (wr.drewN k).ownsRow u1.heap.size 2 1 (.slice (some ⟨b, 0, none⟩) n1 c) (I + 1) (valsG (Value.int .i64) (rotF g J I (I + 1)) (I + 1)) from by have q := owns_rowG (lo := u1.heap.size) hc hcm hb (rowD HRQ.out k); have e := HN1.out; subst e; exact q)
            clear hi' hX hY r1 r2 hx hy
            go_wp2
            go_quiet (fail)
            go_wp2
            go_roundw
            case rel => exact ⟨I + 1, _, hlt, by first | rfl | go_num, HSQ.out, HSS.out, by first | exact HOF.out _ | exact HOF.out 0, by first | exact HXE.out | exact HXE.out.stepN _⟩
            case measure => simp [intOf]; omega
    · obtain rfl : I = zs.length := by omega
      have he := sort_end (leI_tr (rowZ zs salt)) (leI_tot (rowZ zs salt)) (marks 0 zs.length) 0 (g := g) (by rw [marks_length]; exact HSH.out) (by rw [marks_length]; exact HSO.out)
      rw [marks_length] at he
      have HF := Lib.hid (show valsG (Value.int .i64) g zs.length = ints (ordZ (rowZ zs salt)) by rw [valsG_fst, he]; unfold ordZ; rw [rowZ_length]; rfl)
      obtain ⟨a2, c2, hv, ho⟩ := own_valsG HO.out
      subst hv
      rw [HF.out] at ho
      have HO2 := Lib.hid ho
      clear ho he
      go_wp2
      go_ret2
      exact ⟨_, _, rfl, HO2.out.wide X1.out.size (Nat.le_refl _), X1.out.trans HE.out⟩
end Go.Proofs.Ytjnhflpoddpfnab
