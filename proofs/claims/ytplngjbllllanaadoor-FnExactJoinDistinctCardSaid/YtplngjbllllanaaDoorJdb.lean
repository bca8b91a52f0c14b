/- JoinDistinct: both sides. -/
import Derived.Test.YtplngjbllllanaaDoorDsd
import Derived.Test.YtplngjbllllanaaDoorJlf
namespace Go.Proofs.YtplngjbllllanaaDoor
open Go.ChangeShapes Go.WideShapes Go.ChangeAt Go.RowKit
set_option linter.unusedVariables false
def jdB (lA : Int) (xs : List Int) (lB : Int) (ys : List Int) (room salt : Int) : Bool := inB 1 room 128 && (keyB salt && ((inB 0 lA 32 && risB xs room) && (inB 0 lB 32 && risB ys room)))
def jdR (lA : Int) (xs : List Int) (lB : Int) (ys : List Int) (room salt : Int) : Int × List Int × Bool :=
  if jdB lA xs lB ys room salt then disK room salt (xs ++ ys) (33 - (max lA lB).toNat) else (0, [], false)
theorem jdR_no {lA lB room salt : Int} {xs ys : List Int} (h : jdB lA xs lB ys room salt = false) : jdR lA xs lB ys room salt = (0, [], false) := by unfold jdR; rw [h]; rfl
theorem jdR_yes {lA lB room salt : Int} {xs ys : List Int} (h : jdB lA xs lB ys room salt = true) : jdR lA xs lB ys room salt = disK room salt (xs ++ ys) (33 - (max lA lB).toNat) := by unfold jdR; rw [h]; rfl
theorem jdR_le {lA lB room salt : Int} {xs ys : List Int} {x : Int} {zs : List Int} {b : Bool} (h : jdR lA xs lB ys room salt = (x, zs, b)) : zs.length ≤ 1048576 := by
  cases hb : jdB lA xs lB ys room salt
  · rw [jdR_no hb] at h; cases h; exact Nat.zero_le _
  · rw [jdR_yes hb] at h
    have := disK_le (room := room) (salt := salt) (zs := xs ++ ys) (33 - (max lA lB).toNat)
    rw [h] at this
    have : zs.length ≤ 256 := this
    omega
structure RisOk (zs : List Int) (room : Int) : Prop where
  n : (zs.length : Int) ≤ room
  k : ∀ x ∈ zs, keyB x = true
theorem ris_ok {zs : List Int} {room : Int} (h : risB zs room = true) : RisOk zs room := by
  unfold risB at h
  simp only [Bool.and_eq_true, decide_eq_true_eq] at h
  exact ⟨h.1, keys_all h.2.1⟩
theorem c_l00Max_j (x y z : Int) (w : World) (h : max x y = z) : Calls Tryd.prog 23 #[.int .i64 x, .int .i64 y] w fun e w' => e = .returned (.int .i64 z) ∧ w = w' := by
  by_cases hx : x > y
  · obtain rfl : x = z := by omega
    clear h
    go_enter Tryd.func23, Tryd.ntmps23
    go_wp2
    go_ret
    exact ⟨rfl, rfl⟩
  · obtain rfl : y = z := by omega
    clear h
    go_enter Tryd.func23, Tryd.ntmps23
    go_wp2
    go_ret
    exact ⟨rfl, rfl⟩
set_option maxHeartbeats 1000000 in
theorem c_isDistinct (l : Int) (a : Option Addr) (n cap : Nat) (zs : List Int) (room : Int) (w : World) {r : Bool} (hr : (inB 0 l 32 && risB zs room) = r) (hm : n ≤ 1048576) (hrm : room ≤ 128) (h : Reads w a n (ints zs)) :
    Calls Tryd.prog 24 #[.int .i64 l, .slice a n cap, .int .i64 room] w fun e w' => e = .returned (.bool r) ∧ ∃ q, w' = w.drewN q := by
  have hz := h.int.1
  have H := Lib.hid h
  have HM := Lib.hid (show n ≤ maxLen by unfold maxLen; omega)
  clear h
  cases hl : inB 0 l 32
  · rw [hl] at hr; cases hr
    have HL := Lib.hid hl
    clear hl hz
    go_enter Tryd.func24, Tryd.ntmps24
    go_wp2_with (go_at_call 30; refine (c_impl_isLevel _ _ HL.out).mono ?_; rintro e w' ⟨rfl, rfl⟩)
    go_ret
    exact ⟨rfl, 0, rfl⟩
  rw [hl, Bool.true_and] at hr
  unfold risB at hr
  have HL := Lib.hid hl
  by_cases h1 : (n : Int) ≤ room
  · rw [decide_eq_true (show (zs.length : Int) ≤ room by omega), Bool.true_and] at hr
    cases hk : keysB zs
    · rw [hk] at hr; cases hr
      have HK := Lib.hid hk
      clear hl hk hz
      go_enter Tryd.func24, Tryd.ntmps24
      go_wp2_with (first | (go_at_call 30; refine (c_impl_isLevel _ _ HL.out).mono ?_; rintro e w' ⟨rfl, rfl⟩) | (go_at_call 17; refine (c_impl_AreKeys_d _ _ _ zs _ HK.out HM.out H.out).mono ?_; rintro e w' ⟨rfl, rfl⟩))
      go_ret
      exact ⟨rfl, 0, rfl⟩
    · rw [hk, Bool.true_and] at hr
      have HK := Lib.hid hk
      have HR := Lib.hid hr
      have hn256 : n ≤ 256 := by omega
      clear hl hk hz hr
      go_enter Tryd.func24, Tryd.ntmps24
      go_wp2_with (first | (go_at_call 30; refine (c_impl_isLevel _ _ HL.out).mono ?_; rintro e w' ⟨rfl, rfl⟩) | (go_at_call 17; refine (c_impl_AreKeys_d _ _ _ zs _ HK.out HM.out H.out).mono ?_; rintro e w' ⟨rfl, rfl⟩) | (go_at_call 35; refine (c_impl_areIncreasing _ _ _ zs _ HR.out hn256 H.out).mono ?_; rintro e w' ⟨rfl, q, rfl⟩))
      go_ret
      exact ⟨rfl, q, rfl⟩
  · rw [decide_eq_false (show ¬ (zs.length : Int) ≤ room by omega)] at hr; cases hr
    clear hl hz
    go_enter Tryd.func24, Tryd.ntmps24
    go_wp2_with (go_at_call 30; refine (c_impl_isLevel _ _ HL.out).mono ?_; rintro e w' ⟨rfl, rfl⟩)
    go_ret
    exact ⟨rfl, 0, rfl⟩
set_option maxRecDepth 100000 in
set_option maxHeartbeats 2000000 in
theorem c_impl_JoinDistinct (lA : Int) (a1 : Option Addr) (n1 c1 : Nat) (xs : List Int) (lB : Int) (a2 : Option Addr) (n2 c2 : Nat) (ys : List Int) (room salt : Int) (w : World) {x : Int} {zs : List Int} {b : Bool} (hv : jdR lA xs lB ys room salt = (x, zs, b))
    (hm1 : n1 ≤ 1048576) (h1 : Reads w a1 n1 (ints xs)) (hm2 : n2 ≤ 1048576) (h2 : Reads w a2 n2 (ints ys)) (s1 : SlN a1 n1 c1) (s2 : SlN a2 n2 c2) (hT : TabW w) :
    Calls Tryd.prog 12 #[.int .i64 lA, .slice a1 n1 c1, .int .i64 lB, .slice a2 n2 c2, .int .i64 room, .int .i64 salt] w (RetISB 2 x zs b w) := by
  have H1 := Lib.hid h1
  have H2 := Lib.hid h2
  have S1 := Lib.hid s1
  have S2 := Lib.hid s2
  have HT := Lib.hid hT
  have L1 := Lib.hid h1.int.1
  have L2 := Lib.hid h2.int.1
  clear h1 h2 s1 s2 hT
  cases hr : (inB 1 room 128)
  · rw [jdR_no (by unfold jdB; first | (rw [hr]; simp; done) | (simp [hr]; done))] at hv
    cases hv
    have HR := Lib.hid hr; clear hr
    go_enter Tryd.func12, Tryd.ntmps12
    go_wp2_with (first | (go_at_call 18; refine (c_impl_isStreamSize_d _ _ HR.out).mono ?_; rintro e w' ⟨rfl, rfl⟩))
    go_ret3
    exact RetISB.nil _ _ _ (Ext.refl _)
  have HR := Lib.hid hr
  have HRB := Lib.hid (inB_is.1 hr)
  cases hs : (keyB salt)
  · rw [jdR_no (by unfold jdB; first | (rw [hs]; simp; done) | (simp [hs]; done))] at hv
    cases hv
    have HS := Lib.hid hs; clear hs
    go_enter Tryd.func12, Tryd.ntmps12
    go_wp2_with (first | (go_at_call 18; refine (c_impl_isStreamSize_d _ _ HR.out).mono ?_; rintro e w' ⟨rfl, rfl⟩) | (go_at_call 19; refine (c_impl_IsKey_at salt _ HS.out).mono ?_; rintro e w' ⟨rfl, rfl⟩))
    go_ret3
    exact RetISB.nil _ _ _ (Ext.refl _)
  have HS := Lib.hid hs
  cases ha : (inB 0 lA 32 && risB xs room)
  · rw [jdR_no (by unfold jdB; first | (rw [ha]; simp; done) | (simp [ha]; done))] at hv
    cases hv
    have HA := Lib.hid ha; clear ha
    go_enter Tryd.func12, Tryd.ntmps12
    go_wp2_with (first | (go_at_call 18; refine (c_impl_isStreamSize_d _ _ HR.out).mono ?_; rintro e w' ⟨rfl, rfl⟩) | (go_at_call 19; refine (c_impl_IsKey_at salt _ HS.out).mono ?_; rintro e w' ⟨rfl, rfl⟩))
    refine (c_isDistinct lA _ _ _ xs room _ HA.out hm1 HRB.out.2 (H1.out.on (Ext.refl _))).mono ?_; rintro e u1 ⟨he, q1, hu1⟩; cases he
    have X1 := Lib.hid (show Ext w u1 by rw [hu1]; exact Ext.trans (Ext.refl _) (Ext.drewN _ _)); clear hu1
    go_wp2
    go_ret3
    exact RetISB.nil _ _ _ X1.out
  have HA := Lib.hid ha
  cases hb : (inB 0 lB 32 && risB ys room)
  · rw [jdR_no (by unfold jdB; first | (rw [hb]; simp; done) | (simp [hb]; done))] at hv
    cases hv
    have HB := Lib.hid hb; clear hb
    go_enter Tryd.func12, Tryd.ntmps12
    go_wp2_with (first | (go_at_call 18; refine (c_impl_isStreamSize_d _ _ HR.out).mono ?_; rintro e w' ⟨rfl, rfl⟩) | (go_at_call 19; refine (c_impl_IsKey_at salt _ HS.out).mono ?_; rintro e w' ⟨rfl, rfl⟩))
    refine (c_isDistinct lA _ _ _ xs room _ HA.out hm1 HRB.out.2 (H1.out.on (Ext.refl _))).mono ?_; rintro e u1 ⟨he, q1, hu1⟩; cases he
    have X1 := Lib.hid (show Ext w u1 by rw [hu1]; exact Ext.trans (Ext.refl _) (Ext.drewN _ _)); clear hu1
    go_wp2_with fail
    refine (c_isDistinct lB _ _ _ ys room _ HB.out hm2 HRB.out.2 (H2.out.on X1.out)).mono ?_; rintro e u2 ⟨he, q2, hu2⟩; cases he
    have X2 := Lib.hid (show Ext w u2 by rw [hu2]; exact Ext.trans X1.out (Ext.drewN _ _)); clear hu2
    go_wp2
    go_ret3
    exact RetISB.nil _ _ _ X2.out
  have HB := Lib.hid hb
  rw [jdR_yes (by unfold jdB; rw [hr, hs, ha, hb]; rfl)] at hv
  have hax := ha; have hbx := hb; rw [Bool.and_eq_true] at hax hbx
  have RX := Lib.hid (ris_ok hax.2); have RY := Lib.hid (ris_ok hbx.2)
  have hla := inB_is.1 hax.1; have hlb := inB_is.1 hbx.1
  obtain ⟨F, hF⟩ : ∃ F : Nat, (max lA lB).toNat = F := ⟨_, rfl⟩
  rw [hF] at hv
  have hF2 : max lA lB = (F : Int) := by omega
  have hF3 : F ≤ 33 := by omega
  have hF4 : (if lA < lB then lB else lA) = (F : Int) := by omega
  have hF5 : (if lB < lA then lA else lB) = (F : Int) := by omega
  have HF2 := Lib.hid hF2
  have hlen := Lib.hid (show n1 + n2 ≤ 256 by have := RX.out.n; have := RY.out.n; have := HRB.out.2; have := L1.out; have := L2.out; omega)
  have hlen2 := Lib.hid (show n1 + n2 ≤ 512 by have := hlen.out; omega)
  have HKK := Lib.hid (show ∀ x ∈ xs ++ ys, keyB x = true from fun x hx => by
    rcases List.mem_append.1 hx with h | h
    · exact RX.out.k x h
    · exact RY.out.k x h)
  have HLL := Lib.hid (show (xs ++ ys).length = n1 + n2 by rw [List.length_append, L1.out, L2.out])
  have HV := Lib.hid hv
  clear hv hla hlb hF hr hs ha hb hax hbx
  go_enter Tryd.func12, Tryd.ntmps12
  go_wp2_with (first | (go_at_call 18; refine (c_impl_isStreamSize_d _ _ HR.out).mono ?_; rintro e w' ⟨rfl, rfl⟩) | (go_at_call 19; refine (c_impl_IsKey_at salt _ HS.out).mono ?_; rintro e w' ⟨rfl, rfl⟩))
  refine (c_isDistinct lA _ _ _ xs room _ HA.out hm1 HRB.out.2 (H1.out.on (Ext.refl _))).mono ?_; rintro e u1 ⟨he, q1, hu1⟩; cases he
  have X1 := Lib.hid (show Ext w u1 by rw [hu1]; exact Ext.trans (Ext.refl _) (Ext.drewN _ _)); clear hu1
  go_wp2_with fail
  refine (c_isDistinct lB _ _ _ ys room _ HB.out hm2 HRB.out.2 (H2.out.on X1.out)).mono ?_; rintro e u2 ⟨he, q2, hu2⟩; cases he
  have X2 := Lib.hid (show Ext w u2 by rw [hu2]; exact Ext.trans X1.out (Ext.drewN _ _)); clear hu2
  have BX := Lib.hid (Box.alloc u2 #[.slice a1 n1 c1, .slice a2 n2 c2] 22)
  obtain ⟨b0, b1⟩ := BX.out.two
  have X3 := Lib.hid (X2.out.stepA (.cells #[.slice a1 n1 c1, .slice a2 n2 c2] 22))
  go_wp2_with fail
  refine (c_Concat2 _ a1 n1 c1 xs a2 n2 c2 ys _ b0 b1 S1.out S2.out (H1.out.on X3.out) (H2.out.on X3.out) hm1 hm2).mono ?_; rintro e u3 ⟨a3, c3, rfl, o3, x3⟩
  have O3 := Lib.hid o3
  have E3 := Lib.hid (X3.out.trans x3)
  clear o3 x3 b0 b1
  go_wp2_with fail
  first | rw [hF2] | rw [hF4] | rw [hF5] | skip
  refine (c_sampleFrom F _ (n1 + n2) _ (xs ++ ys) room salt _ hlen.out hF3 HKK.out HS.out O3.out.reads (HT.out.on E3.out) HV.out).mono ?_; rintro e u4 ⟨a4, c4, rfl, o4, x4⟩
  have O4 := Lib.hid o4
  have E4 := Lib.hid (E3.out.trans x4)
  have SZ := Lib.hid E3.out.size
  clear o4 x4
  go_wp2
  go_ret3
  exact ⟨a4, c4, rfl, O4.out.wide SZ.out (Nat.le_refl _), E4.out⟩
set_option maxRecDepth 100000 in
set_option maxHeartbeats 2000000 in
theorem c_spec_JoinDistinct (lA : Int) (a1 : Option Addr) (n1 c1 : Nat) (xs : List Int) (lB : Int) (a2 : Option Addr) (n2 c2 : Nat) (ys : List Int) (room salt : Int) (w : World) {x : Int} {zs : List Int} {b : Bool} (hv : jdR lA xs lB ys room salt = (x, zs, b))
    (hm1 : n1 ≤ 1048576) (h1 : Reads w a1 n1 (ints xs)) (hm2 : n2 ≤ 1048576) (h2 : Reads w a2 n2 (ints ys)) (s1 : SlN a1 n1 c1) (s2 : SlN a2 n2 c2) (hT : TabW w) :
    Calls Tryd.prog 11 #[.int .i64 lA, .slice a1 n1 c1, .int .i64 lB, .slice a2 n2 c2, .int .i64 room, .int .i64 salt] w (RetISB 2 x zs b w) := by
  have H1 := Lib.hid h1
  have H2 := Lib.hid h2
  have S1 := Lib.hid s1
  have S2 := Lib.hid s2
  have HT := Lib.hid hT
  have L1 := Lib.hid h1.int.1
  have L2 := Lib.hid h2.int.1
  clear h1 h2 s1 s2 hT
  cases hr : (inB 1 room 128)
  · rw [jdR_no (by unfold jdB; first | (rw [hr]; simp; done) | (simp [hr]; done))] at hv
    cases hv
    have HR := Lib.hid hr; clear hr
    go_enter Tryd.func11, Tryd.ntmps11
    go_wp2_with (first | (go_at_call 14; refine (c_spec_l06Room_d _ _ HR.out).mono ?_; rintro e w' ⟨rfl, rfl⟩))
    go_ret3
    exact RetISB.nil _ _ _ (Ext.refl _)
  have HR := Lib.hid hr
  have HRB := Lib.hid (inB_is.1 hr)
  cases hx : (risB xs room)
  · rw [jdR_no (by unfold jdB; first | (rw [hx]; simp; done) | (simp [hx]; done))] at hv
    cases hv
    have HX := Lib.hid hx; clear hx
    go_enter Tryd.func11, Tryd.ntmps11
    go_wp2_with (first | (go_at_call 14; refine (c_spec_l06Room_d _ _ HR.out).mono ?_; rintro e w' ⟨rfl, rfl⟩))
    refine (c_spec_l04Rising_g _ _ _ xs room _ HX.out hm1 (by have := HRB.out.2; omega) (H1.out.on (Ext.refl _))).mono ?_; rintro e u1 ⟨he, q1, hu1⟩; cases he
    have X1 := Lib.hid (show Ext w u1 by rw [hu1]; exact Ext.trans (Ext.refl _) (Ext.drewN _ _)); clear hu1
    go_wp2
    go_ret3
    exact RetISB.nil _ _ _ X1.out
  have HX := Lib.hid hx
  cases hy : (risB ys room)
  · rw [jdR_no (by unfold jdB; first | (rw [hy]; simp; done) | (simp [hy]; done))] at hv
    cases hv
    have HY := Lib.hid hy; clear hy
    go_enter Tryd.func11, Tryd.ntmps11
    go_wp2_with (first | (go_at_call 14; refine (c_spec_l06Room_d _ _ HR.out).mono ?_; rintro e w' ⟨rfl, rfl⟩))
    refine (c_spec_l04Rising_g _ _ _ xs room _ HX.out hm1 (by have := HRB.out.2; omega) (H1.out.on (Ext.refl _))).mono ?_; rintro e u1 ⟨he, q1, hu1⟩; cases he
    have X1 := Lib.hid (show Ext w u1 by rw [hu1]; exact Ext.trans (Ext.refl _) (Ext.drewN _ _)); clear hu1
    go_wp2_with fail
    refine (c_spec_l04Rising_g _ _ _ ys room _ HY.out hm2 (by have := HRB.out.2; omega) (H2.out.on X1.out)).mono ?_; rintro e u2 ⟨he, q2, hu2⟩; cases he
    have X2 := Lib.hid (show Ext w u2 by rw [hu2]; exact Ext.trans X1.out (Ext.drewN _ _)); clear hu2
    go_wp2
    go_ret3
    exact RetISB.nil _ _ _ X2.out
  have HY := Lib.hid hy
  cases ha : (inB 0 lA 32)
  · rw [jdR_no (by unfold jdB; first | (rw [ha]; simp; done) | (simp [ha]; done))] at hv
    cases hv
    have HA := Lib.hid ha; clear ha
    go_enter Tryd.func11, Tryd.ntmps11
    go_wp2_with (first | (go_at_call 14; refine (c_spec_l06Room_d _ _ HR.out).mono ?_; rintro e w' ⟨rfl, rfl⟩))
    refine (c_spec_l04Rising_g _ _ _ xs room _ HX.out hm1 (by have := HRB.out.2; omega) (H1.out.on (Ext.refl _))).mono ?_; rintro e u1 ⟨he, q1, hu1⟩; cases he
    have X1 := Lib.hid (show Ext w u1 by rw [hu1]; exact Ext.trans (Ext.refl _) (Ext.drewN _ _)); clear hu1
    go_wp2_with fail
    refine (c_spec_l04Rising_g _ _ _ ys room _ HY.out hm2 (by have := HRB.out.2; omega) (H2.out.on X1.out)).mono ?_; rintro e u2 ⟨he, q2, hu2⟩; cases he
    have X2 := Lib.hid (show Ext w u2 by rw [hu2]; exact Ext.trans X1.out (Ext.drewN _ _)); clear hu2
    go_wp2_with (first | (go_at_call_of 22 (Value.int .i64 lA); refine (c_l00In_k _ _ _ _ HA.out).mono ?_; rintro e w' ⟨rfl, rfl⟩))
    go_ret3
    exact RetISB.nil _ _ _ X2.out
  have HA := Lib.hid ha
  cases hb : (inB 0 lB 32)
  · rw [jdR_no (by unfold jdB; first | (rw [hb]; simp; done) | (simp [hb]; done))] at hv
    cases hv
    have HB := Lib.hid hb; clear hb
    go_enter Tryd.func11, Tryd.ntmps11
    go_wp2_with (first | (go_at_call 14; refine (c_spec_l06Room_d _ _ HR.out).mono ?_; rintro e w' ⟨rfl, rfl⟩))
    refine (c_spec_l04Rising_g _ _ _ xs room _ HX.out hm1 (by have := HRB.out.2; omega) (H1.out.on (Ext.refl _))).mono ?_; rintro e u1 ⟨he, q1, hu1⟩; cases he
    have X1 := Lib.hid (show Ext w u1 by rw [hu1]; exact Ext.trans (Ext.refl _) (Ext.drewN _ _)); clear hu1
    go_wp2_with fail
    refine (c_spec_l04Rising_g _ _ _ ys room _ HY.out hm2 (by have := HRB.out.2; omega) (H2.out.on X1.out)).mono ?_; rintro e u2 ⟨he, q2, hu2⟩; cases he
    have X2 := Lib.hid (show Ext w u2 by rw [hu2]; exact Ext.trans X1.out (Ext.drewN _ _)); clear hu2
    go_wp2_with (first | (go_at_call_of 22 (Value.int .i64 lA); refine (c_l00In_k _ _ _ _ HA.out).mono ?_; rintro e w' ⟨rfl, rfl⟩) | (go_at_call_of 22 (Value.int .i64 lB); refine (c_l00In_k _ _ _ _ HB.out).mono ?_; rintro e w' ⟨rfl, rfl⟩))
    go_ret3
    exact RetISB.nil _ _ _ X2.out
  have HB := Lib.hid hb
  cases hs : (keyB salt)
  · rw [jdR_no (by unfold jdB; first | (rw [hs]; simp; done) | (simp [hs]; done))] at hv
    cases hv
    have HS := Lib.hid hs; clear hs
    go_enter Tryd.func11, Tryd.ntmps11
    go_wp2_with (first | (go_at_call 14; refine (c_spec_l06Room_d _ _ HR.out).mono ?_; rintro e w' ⟨rfl, rfl⟩))
    refine (c_spec_l04Rising_g _ _ _ xs room _ HX.out hm1 (by have := HRB.out.2; omega) (H1.out.on (Ext.refl _))).mono ?_; rintro e u1 ⟨he, q1, hu1⟩; cases he
    have X1 := Lib.hid (show Ext w u1 by rw [hu1]; exact Ext.trans (Ext.refl _) (Ext.drewN _ _)); clear hu1
    go_wp2_with fail
    refine (c_spec_l04Rising_g _ _ _ ys room _ HY.out hm2 (by have := HRB.out.2; omega) (H2.out.on X1.out)).mono ?_; rintro e u2 ⟨he, q2, hu2⟩; cases he
    have X2 := Lib.hid (show Ext w u2 by rw [hu2]; exact Ext.trans X1.out (Ext.drewN _ _)); clear hu2
    go_wp2_with (first | (go_at_call_of 22 (Value.int .i64 lA); refine (c_l00In_k _ _ _ _ HA.out).mono ?_; rintro e w' ⟨rfl, rfl⟩) | (go_at_call_of 22 (Value.int .i64 lB); refine (c_l00In_k _ _ _ _ HB.out).mono ?_; rintro e w' ⟨rfl, rfl⟩) | (go_at_call 15; refine (c_spec_l02Key_at salt _ HS.out).mono ?_; rintro e w' ⟨rfl, rfl⟩))
    go_ret3
    exact RetISB.nil _ _ _ X2.out
  have HS := Lib.hid hs
  rw [jdR_yes (by unfold jdB; rw [hr, hs, ha, hb, hx, hy]; rfl)] at hv
  have RX := Lib.hid (ris_ok hx); have RY := Lib.hid (ris_ok hy)
  have hla := inB_is.1 ha; have hlb := inB_is.1 hb
  obtain ⟨F, hF⟩ : ∃ F : Nat, (max lA lB).toNat = F := ⟨_, rfl⟩
  rw [hF] at hv
  have hF2 : max lA lB = (F : Int) := by omega
  have hF3 : F ≤ 33 := by omega
  have hF4 : (if lA < lB then lB else lA) = (F : Int) := by omega
  have hF5 : (if lB < lA then lA else lB) = (F : Int) := by omega
  have HF2 := Lib.hid hF2
  have hlen := Lib.hid (show n1 + n2 ≤ 256 by have := RX.out.n; have := RY.out.n; have := HRB.out.2; have := L1.out; have := L2.out; omega)
  have hlen2 := Lib.hid (show n1 + n2 ≤ 512 by have := hlen.out; omega)
  have HKK := Lib.hid (show ∀ x ∈ xs ++ ys, keyB x = true from fun x hx => by
    rcases List.mem_append.1 hx with h | h
    · exact RX.out.k x h
    · exact RY.out.k x h)
  have HLL := Lib.hid (show (xs ++ ys).length = n1 + n2 by rw [List.length_append, L1.out, L2.out])
  have HV := Lib.hid hv
  clear hv hla hlb hF hr hx hy ha hb hs
  obtain ⟨i0, hi, hz0, hz1, hz2⟩ := info_parts info_i64
  go_enter Tryd.func11, Tryd.ntmps11
  go_wp2_with (first | (go_at_call 14; refine (c_spec_l06Room_d _ _ HR.out).mono ?_; rintro e w' ⟨rfl, rfl⟩))
  refine (c_spec_l04Rising_g _ _ _ xs room _ HX.out hm1 (by have := HRB.out.2; omega) (H1.out.on (Ext.refl _))).mono ?_; rintro e u1 ⟨he, q1, hu1⟩; cases he
  have X1 := Lib.hid (show Ext w u1 by rw [hu1]; exact Ext.trans (Ext.refl _) (Ext.drewN _ _)); clear hu1
  go_wp2_with fail
  refine (c_spec_l04Rising_g _ _ _ ys room _ HY.out hm2 (by have := HRB.out.2; omega) (H2.out.on X1.out)).mono ?_; rintro e u2 ⟨he, q2, hu2⟩; cases he
  have X2 := Lib.hid (show Ext w u2 by rw [hu2]; exact Ext.trans X1.out (Ext.drewN _ _)); clear hu2
  go_wp2_with (first | (go_at_call_of 22 (Value.int .i64 lA); refine (c_l00In_k _ _ _ _ HA.out).mono ?_; rintro e w' ⟨rfl, rfl⟩) | (go_at_call_of 22 (Value.int .i64 lB); refine (c_l00In_k _ _ _ _ HB.out).mono ?_; rintro e w' ⟨rfl, rfl⟩) | (go_at_call 15; refine (c_spec_l02Key_at salt _ HS.out).mono ?_; rintro e w' ⟨rfl, rfl⟩) | (have XX := X2.out; at_builtin; refine wpList_append_spread (w0 := w) rfl _ _ 22 rfl 2 i0 (.int .i64 0) Tryd.underlying22 hi hz0 hz1 hz2 rfl _ 0 [] rfl (XX.stepA _) (World.ownsRow_made _ _ _ XX.size (Nat.zero_le _) rfl) a1 n1 c1 xs rfl S1.out (H1.out.on (XX.stepA _)) (by have := hlen2.out; omega) ?_; intro v' w3 o3 x3; rw [Nat.zero_add, List.nil_append] at o3; have O3 := Lib.hid o3; have X3 := Lib.hid x3; clear o3 x3 XX X2) | (at_builtin; refine wpList_append_spread (w0 := w) rfl _ _ 22 rfl 2 i0 (.int .i64 0) Tryd.underlying22 hi hz0 hz1 hz2 rfl _ _ _ rfl X3.out O3.out a2 n2 c2 ys rfl S2.out (H2.out.on X3.out) (by have := hlen2.out; omega) ?_; intro v4 w4 o4 x4; obtain ⟨a5, c5, rfl, o5⟩ := Own.of_row (e := 0) o4; have O5 := Lib.hid (show Own 2 w4 w.heap.size w4.heap.size a5 (n1 + n2) c5 (ints (xs ++ ys)) by rw [ints_app]; exact o5); have X4 := Lib.hid x4; clear o4 x4 o5) | (go_at_call 23; refine (c_l00Max_j _ _ _ _ HF2.out).mono ?_; rintro e w' ⟨rfl, rfl⟩))
  refine (c_spec_l06Distinct _ (n1 + n2) _ (xs ++ ys) room salt F _ (by have := hlen.out; omega) hF3 (by have := keys_get HKK.out; rw [HLL.out] at this; exact this) HS.out O5.out.reads HV.out).mono ?_; rintro e u6 ⟨a6, c6, rfl, o6, x6⟩
  have O6 := Lib.hid o6
  have X6 := Lib.hid (X4.out.trans x6)
  have SZ := Lib.hid X4.out.size
  clear o6 x6
  go_wp2
  go_ret3
  exact ⟨a6, c6, rfl, O6.out.wide SZ.out (Nat.le_refl _), X6.out⟩
end Go.Proofs.YtplngjbllllanaaDoor
