/- Samples of different keys, by the other side. -/
import Derived.Test.YtplngjbllllanaaDoorDsa
import Derived.Test.YtplngjbllllanaaDoorLdj
import Derived.Test.YtplngjbllllanaaDoorVas
namespace Go.Proofs.YtplngjbllllanaaDoor
open Go.ChangeShapes Go.WideShapes Go.ChangeAt Go.RowKit
set_option linter.unusedVariables false
theorem TabW.on {w w' : World} (h : TabW w) (e : Ext w w') : TabW w' := fun j hj => Ext.some e (h j hj)
theorem filter_snoc (p : Int → Bool) (zs : List Int) (k : Nat) (h : k < zs.length) : (zs.take (k + 1)).filter p = (zs.take k).filter p ++ (if p (getI zs k) then [getI zs k] else []) := by
  rw [List.take_succ_eq_append_getElem h, List.filter_append]
  congr 1
  have e : getI zs k = zs[k] := by unfold getI; rw [List.getElem?_eq_getElem h]; rfl
  rw [e]
  cases hp : p zs[k] <;> simp [hp]
set_option maxRecDepth 100000 in
set_option maxHeartbeats 2000000 in
theorem c_spec_l06Level (a : Option Addr) (n cap : Nat) (zs : List Int) (salt level : Int) (w : World) (hm : n ≤ 1048576) (hk : ∀ i, i < n → keyB (getI zs i) = true) (hs : keyB salt = true) (h : Reads w a n (ints zs)) :
    Calls Tryd.prog 26 #[.slice a n cap, .int .i64 salt, .int .i64 level] w (RetS 2 (disL salt level zs).length (ints (disL salt level zs)) w) := by
  obtain ⟨hz, hrd⟩ := h.int
  have HR := Lib.hid hrd
  have HZ := Lib.hid hz
  have HK := Lib.hid hk
  have HS := Lib.hid hs
  have hnI : (n : Int) ≤ 1048576 := by omega
  obtain ⟨i0, hi, hz0, hz1, hz2⟩ := info_parts info_i64
  obtain ⟨p, hp⟩ : ∃ p, zerP salt level = p := ⟨_, rfl⟩
  have HP := Lib.hid (show ∀ x, p x = decide (level ≤ lowV ((hashN x salt : Nat) : Int)) from fun x => by rw [← hp]; rfl)
  have HD := Lib.hid (show disL salt level zs = leastD 256 (zs.filter p) by rw [← hp]; rfl)
  clear h hz hrd hk hs hp
  go_enter Tryd.func26, Tryd.ntmps26
  go_wp2
  go_loopw [7, 8] (fun v i wr => ∃ k : Nat, k ≤ n ∧ i = .int .i64 k ∧ wr.ownsRow w.heap.size 2 1 v ((zs.take k).filter p).length (ints ((zs.take k).filter p)) ∧ Ext w wr) (fun _ i _ => n - (intOf i).toNat)
  case atStart => exact ⟨0, Nat.zero_le _, rfl, World.ownsRow_made _ _ _ (Nat.le_refl _) (Nat.zero_le _) rfl, Ext.alloc _ _⟩
  case round =>
    obtain ⟨k, hk, rfl, hown, hext⟩ := hrel
    have HO := Lib.hid hown
    have HE := Lib.hid hext
    clear hown hext
    have hfl : ((zs.take k).filter p).length ≤ k := by
      have := List.length_filter_le p (zs.take k); rw [List.length_take] at this; omega
    by_cases hlt : k < n
    · have hltI : (k : Int) < (n : Int) := by omega
      rcases HR.out with h0 | ⟨b, off, rfl, hc⟩
      · omega
      have cx := HE.out.some (hc k hlt)
      have HF := Lib.hid (filter_snoc p zs k (by have := HZ.out; omega))
      have HKX := Lib.hid (HK.out k hlt)
      obtain ⟨x, hx⟩ : ∃ x, getI zs k = x := ⟨_, rfl⟩
      rw [show zs[k]?.getD 0 = x from hx] at cx
      rw [hx] at HF HKX
      obtain ⟨u, hu⟩ : ∃ u : Int, ((hashN x salt : Nat) : Int) = u := ⟨_, rfl⟩
      have HU := Lib.hid hu
      have HV := Lib.hid (show keyB u = true by rw [← hu]; exact hash_key x salt)
      obtain ⟨z, hzz⟩ : ∃ z, lowV u = z := ⟨_, rfl⟩
      have HZZ := Lib.hid hzz
      have HPX := Lib.hid (show p x = decide (level ≤ z) by rw [HP.out, hu, hzz])
      obtain ⟨fl, hfl2⟩ : ∃ fl, (zs.take k).filter p = fl := ⟨_, rfl⟩
      rw [hfl2] at HO HF hfl
      clear hc hx hu hzz hfl2
      by_cases hl : level ≤ z
      · have HF2 := Lib.hid (show (zs.take (k + 1)).filter p = fl ++ [x] by rw [HF.out, HPX.out, if_pos (decide_eq_true hl)])
        go_wp2_with (first | (go_at_call 38; refine (c_spec_l02Hash x salt _ HKX.out HS.out).mono ?_; rw [HU.out]; rintro e w' ⟨rfl, rfl⟩) | (go_at_call 37; refine (c_spec_LowZerosOf u _).mono ?_; rw [HZZ.out, HV.out]; rintro e w' ⟨rfl, rfl⟩) | (at_builtin; refine wpList_append_own _ rfl _ _ 22 rfl w.heap.size 2 i0 (.int .i64 0) 1 8 Tryd.underlying22 hi hz0 hz1 hz2 rfl (by decide) _ _ _ rfl (HO.out.alloc _) ⟨_, 0, none⟩ 1 1 [.int .i64 x] rfl rfl (one_cell_at _ _ _) (by intro u hu; simp at hu; subst hu; rfl) (by unfold maxLen; omega) (by omega) (by have := HE.out.size; first | (simp; omega) | omega) ?_; intro v' w1 hown' hgrow _; have HO' := Lib.hid hown'; have HE' := Lib.hid (app_step HE.out HO.out hgrow); clear hown' hgrow))
        go_roundw
        case rel => exact ⟨k + 1, by omega, by go_num, by rw [HF2.out, List.length_append, List.length_singleton, show ints (fl ++ [x]) = ints fl ++ [.int .i64 x] by unfold ints; rw [List.map_append]; rfl]; exact HO'.out, HE'.out⟩
        case measure => simp [intOf]; omega
      · have HF2 := Lib.hid (show (zs.take (k + 1)).filter p = fl by rw [HF.out, HPX.out, if_neg (by rw [decide_eq_false hl]; decide), List.append_nil])
        go_wp2_with (first | (go_at_call 38; refine (c_spec_l02Hash x salt _ HKX.out HS.out).mono ?_; rw [HU.out]; rintro e w' ⟨rfl, rfl⟩) | (go_at_call 37; refine (c_spec_LowZerosOf u _).mono ?_; rw [HZZ.out, HV.out]; rintro e w' ⟨rfl, rfl⟩))
        go_roundw
        case rel => exact ⟨k + 1, by omega, by go_num, by rw [HF2.out]; exact HO.out, HE.out⟩
        case measure => simp [intOf]; omega
    · have hkl : k = n := by omega
      subst hkl
      have hlt' : ¬ (k : Int) < (k : Int) := by omega
      rw [List.take_of_length_le (by have := HZ.out; omega)] at HO
      obtain ⟨a1, c1, rfl, ho⟩ := Own.of_row (e := 0) HO.out
      have O1 := Lib.hid ho
      have hfn : (zs.filter p).length ≤ 1048576 := by have := List.length_filter_le p zs; have := HZ.out; omega
      clear ho
      go_wp2_with fail
      refine (c_spec_l04Least _ _ _ (zs.filter p) 256 _ hfn (by decide) (by decide) O1.out.reads).mono ?_; rintro e w2 ⟨a2, c2, rfl, o2, x2⟩
      have O2 := Lib.hid o2
      have X2 := Lib.hid (HE.out.trans x2)
      have SZ := Lib.hid HE.out.size
      clear o2 x2
      go_wp2
      go_ret
      refine ⟨a2, c2, ?_, ?_, X2.out⟩
      · rw [HD.out]; rfl
      · rw [HD.out]; exact O2.out.wide SZ.out (Nat.le_refl _)
set_option maxRecDepth 100000 in
set_option maxHeartbeats 1000000 in
theorem c_spec_l06Distinct (a : Option Addr) (n cap : Nat) (zs : List Int) (room salt : Int) (F : Nat) (w : World) (hm : n ≤ 1048576) (hF : F ≤ 33) (hk : ∀ i, i < n → keyB (getI zs i) = true) (hs : keyB salt = true) (h : Reads w a n (ints zs))
    {x : Int} {xs : List Int} {b : Bool} (hv : disK room salt zs (33 - F) = (x, xs, b)) :
    Calls Tryd.prog 16 #[.slice a n cap, .int .i64 room, .int .i64 salt, .int .i64 (F : Int)] w (RetISB 2 x xs b w) := by
  have H := Lib.hid h
  have HK := Lib.hid hk
  have HS := Lib.hid hs
  have HV := Lib.hid hv
  clear h hk hs hv
  go_enter Tryd.func16, Tryd.ntmps16
  go_wp2
  go_loopw [11] (fun l wr => ∃ L : Nat, L ≤ 33 ∧ l = .int .i64 (L : Int) ∧ disK room salt zs (33 - L) = (x, xs, b) ∧ Ext w wr) (fun l _ => 33 - (intOf l).toNat)
  case atStart => exact ⟨F, hF, rfl, HV.out, Ext.refl _⟩
  case round =>
    obtain ⟨L, hL, rfl, hd, hext⟩ := hrel
    have HE := Lib.hid hext
    have HD := Lib.hid hd
    clear hext hd
    by_cases hlt : L ≤ 32
    · have hltI : (L : Int) ≤ 32 := by omega
      have HYS := Lib.hid (disK_yes (room := room) (salt := salt) (zs := zs) hlt)
      have HNO := Lib.hid (disK_no (room := room) (salt := salt) (zs := zs) hlt)
      obtain ⟨dl, hdl⟩ : ∃ dl, disL salt (L : Int) zs = dl := ⟨_, rfl⟩
      have HDL := Lib.hid hdl
      rw [hdl] at HYS HNO
      have hdn : dl.length ≤ 256 := by rw [← hdl]; exact leastD_le 256 _
      clear hdl
      by_cases hr : (dl.length : Int) ≤ room
      · have HXX := Lib.hid (show ((L : Int), dl, true) = (x, xs, b) by rw [← HYS.out hr]; exact HD.out)
        go_wp2_with (go_at_call 26; refine (c_spec_l06Level _ _ _ zs salt (L : Int) _ hm HK.out HS.out (H.out.on HE.out)).mono ?_; rw [HDL.out]; rintro e w2 ⟨a2, c2, rfl, o2, x2⟩; have O2 := Lib.hid o2; have X2 := Lib.hid (HE.out.trans x2); have SZ := Lib.hid HE.out.size; clear o2 x2)
        go_ret3
        have hxx := HXX.out
        simp only [Prod.mk.injEq] at hxx
        obtain ⟨rfl, rfl, rfl⟩ := hxx
        exact ⟨a2, c2, rfl, O2.out.wide SZ.out (Nat.le_refl _), X2.out⟩
      · have HNN := Lib.hid (show disK room salt zs (33 - (L + 1)) = (x, xs, b) by rw [← HNO.out hr]; exact HD.out)
        go_wp2_with (go_at_call 26; refine (c_spec_l06Level _ _ _ zs salt (L : Int) _ hm HK.out HS.out (H.out.on HE.out)).mono ?_; rw [HDL.out]; rintro e w2 ⟨a2, c2, rfl, o2, x2⟩; have X2 := Lib.hid (HE.out.trans x2); clear o2 x2)
        go_roundw
        case rel => exact ⟨L + 1, by omega, by go_num, HNN.out, X2.out⟩
        case measure => simp [intOf]; omega
    · have hL3 : L = 33 := by omega
      subst hL3
      have hxx := HD.out
      rw [Nat.sub_self, disK_0] at hxx
      simp only [Prod.mk.injEq] at hxx
      obtain ⟨rfl, rfl, rfl⟩ := hxx
      clear HD HV
      go_wp2
      go_ret3
      exact RetISB.nil _ _ _ HE.out
end Go.Proofs.YtplngjbllllanaaDoor
