/- BandPairs: by the program. -/
import Derived.Test.YtibldgcfplpdkaaBpd
import Derived.Deep.RegionHeld3
namespace Go.Proofs.Ytibldgcfplpdkaa
open Go.ChangeShapes Go.WideShapes Go.ChangeAt Go.RowKit
set_option linter.unusedVariables false
def divB (part : Int) (count : Nat) : Bool := decide (1 ≤ part) && decide (count % part.toNat = 0)
theorem divB_lo {part : Int} {count : Nat} (h : ¬ 1 ≤ part) : divB part count = false := by unfold divB; rw [decide_eq_false h]; rfl
theorem divB_is {part : Int} {count : Nat} (h : divB part count = true) : 1 ≤ part ∧ count % part.toNat = 0 := by unfold divB at h; simpa using h
theorem divB_nat {W count : Nat} (h : 1 ≤ W) : divB (W : Int) count = decide (count % W = 0) := by unfold divB; rw [decide_eq_true (by omega), Int.toNat_natCast]; rfl
def bandOk (zss : List (List Bool)) (wide : Int) : Bool := ptsb zss && divB wide (rowS zss 0).length
def bpP (zss : List (List Bool)) (wide : Int) (i k : Nat) : Bool := bandB (rowS zss i) (rowS zss k) wide.toNat ((rowS zss 0).length / wide.toNat)
def bandR (zss : List (List Bool)) (wide : Int) : List Int × Bool := if bandOk zss wide then (prAll (bpP zss wide) zss.length zss.length, true) else ([], false)
theorem bandR_no {zss : List (List Bool)} {wide : Int} (h : bandOk zss wide = false) : bandR zss wide = ([], false) := if_neg (by rw [h]; decide)
theorem bandR_yes {zss : List (List Bool)} {wide : Int} (h : bandOk zss wide = true) : bandR zss wide = (prAll (bpP zss wide) zss.length zss.length, true) := if_pos h
theorem bandR_pairs {zss : List (List Bool)} {wide : Int} (h : bandOk zss wide = true) : bandR zss wide = pairsR (bpP zss wide) (fun _ _ => true) zss.length := by
  rw [bandR_yes h, pairsR_yes (okAll_yes fun _ _ _ _ => rfl)]
theorem bandOk_pts {zss : List (List Bool)} {wide : Int} (h : ptsb zss = false) : bandOk zss wide = false := by unfold bandOk; rw [h]; rfl
theorem bandOk_div {zss : List (List Bool)} {wide : Int} (h : divB wide (rowS zss 0).length = false) : bandOk zss wide = false := by unfold bandOk; rw [h]; simp
theorem bandOk_yes {zss : List (List Bool)} {wide : Int} (h : ptsb zss = true) (h2 : divB wide (rowS zss 0).length = true) : bandOk zss wide = true := by unfold bandOk; rw [h, h2]; rfl
theorem bandR_le {zss : List (List Bool)} {wide : Int} {rz : List Int} {rb : Bool} (h : bandR zss wide = (rz, rb)) : rz.length ≤ 1048576 := by
  cases ho : bandOk zss wide
  · rw [bandR_no ho] at h; cases h; exact Nat.zero_le _
  · rw [bandR_pairs ho] at h
    unfold bandOk at ho
    rw [Bool.and_eq_true] at ho
    exact pairsR_le (ptsb_is ho.1).2.1 h
/-- what a row of such lists is -/
structure BandRow (zss : List (List Bool)) (W q : Nat) (hs : Nat → Hd) (w : World) (i : Nat) : Prop where
  n : (rowS zss i).length = q * W
  a : ∃ b off, (hs i).a = some ⟨b, off, none⟩
  r : Reads w (hs i).a (q * W) (bools (rowS zss i))
  c : q * W ≤ (hs i).c
theorem c_divides (part : Int) (L : Nat) (w : World) {r : Bool} (hr : divB part L = r) (hL : L ≤ 1048576) :
    Calls Try.prog 116 #[.int .i64 part, .int .i64 (L : Int)] w fun e w' => e = .returned (.bool r) ∧ w' = w := by
  by_cases h1 : 1 ≤ part
  case neg =>
    have HR := Lib.hid (show r = false by rw [← hr]; exact divB_lo h1)
    have h1' : part < 1 := by omega
    clear hr h1
    go_enter Try.func116, Try.ntmps116
    go_wp2
    go_ret
    exact ⟨by rw [HR.out]; rfl, rfl⟩
  obtain ⟨W, hW⟩ : ∃ W : Nat, part = (W : Int) := ⟨part.toNat, by omega⟩
  subst hW
  have hW1 : 1 ≤ W := by omega
  rw [divB_nat hW1] at hr
  have hLI : (L : Int) ≤ 1048576 := by omega
  have z1 : ((W : Int) == 0) = false := by simp; omega
  have z2 : ¬ (W : Int) = 0 := by omega
  have z3 : (0 : Int) < (W : Int) := by omega
  obtain ⟨M, hM⟩ : ∃ M : Nat, L % W = M := ⟨_, rfl⟩
  have e1 : (L : Int) % (W : Int) = (M : Int) := by rw [← hM]; omega
  have e2 : (L : Int).tmod (W : Int) = (M : Int) := by rw [Int.tmod_eq_emod_of_nonneg (by omega)]; exact e1
  have hMl : M ≤ L := by rw [← hM]; exact Nat.mod_le _ _
  rw [hM] at hr
  clear hM
  by_cases h2 : M = 0
  · subst h2
    have HR := Lib.hid (show r = true by rw [← hr]; rfl)
    clear hr
    go_enter Try.func116, Try.ntmps116
    go_wp2
    go_ret
    exact ⟨by rw [HR.out]; rfl, rfl⟩
  · have HR := Lib.hid (show r = false by rw [← hr]; exact decide_eq_false h2)
    have h3 : ((M : Int) == 0) = false := by simp; omega
    clear hr h2
    go_enter Try.func116, Try.ntmps116
    go_wp2
    go_ret
    exact ⟨by rw [HR.out]; rfl, rfl⟩
set_option maxHeartbeats 2000000 in
theorem c_bp1 (gl gw : Nat) (b off n cap : Nat) (hs : Nat → Hd) (zss : List (List Bool)) (W q : Nat) (w : World) (i k : Nat) {r : Bool} (hr : bandB (rowS zss i) (rowS zss k) W q = r) (hw1 : 1 ≤ W) (hw2 : W ≤ 64) (hq : q * W ≤ 1048576) (hi : i < n) (hk : k < n) (hn : n ≤ 1048576)
    (hg : w.cell? ⟨gl, 0, none⟩ = some (.slice (some ⟨b, off, none⟩) n cap)) (hw : w.cell? ⟨gw, 0, none⟩ = some (.int .i64 (W : Int))) (ci : w.cell? ⟨b, off + i, none⟩ = some (.slice (hs i).a (rowS zss i).length (hs i).c)) (ck : w.cell? ⟨b, off + k, none⟩ = some (.slice (hs k).a (rowS zss k).length (hs k).c)) (ri : BandRow zss W q hs w i) (rk : BandRow zss W q hs w k) :
    Calls Try.prog 118 #[.int .i64 (i : Int), .int .i64 (k : Int), .pointer (some ⟨gl, 0, none⟩), .pointer (some ⟨gw, 0, none⟩)] w fun e w' => e = .returned (.tuple #[.bool r, .bool true]) ∧ Ext w w' := by
  obtain ⟨ab, ao, ea⟩ := ri.a
  obtain ⟨bb, bo, eb⟩ := rk.a
  have RI := Lib.hid ri.r
  have RK := Lib.hid rk.r
  have q1 := ri.c
  have q2 := rk.c
  rw [ri.n] at ci
  rw [rk.n] at ck
  rw [ea] at ci RI
  rw [eb] at ck RK
  obtain ⟨L, hL⟩ : ∃ L, q * W = L := ⟨_, rfl⟩
  have HL := Lib.hid hL
  rw [hL] at ci ck RI RK hq q1 q2
  obtain ⟨ca, hca⟩ : ∃ c, (hs i).c = c := ⟨_, rfl⟩
  obtain ⟨cb, hcb⟩ : ∃ c, (hs k).c = c := ⟨_, rfl⟩
  rw [hca] at ci q1
  rw [hcb] at ck q2
  have HR := Lib.hid hr
  have hiI : (i : Int) < (n : Int) := by omega
  have hkI : (k : Int) < (n : Int) := by omega
  clear hr ri rk ea eb hca hcb hL
  go_enter Try.func118, Try.ntmps118
  go_wp2
  go_quiet ((go_at_call 119; exact Calls.quiet_of (c_haveEqualBand ab ao L ca bb bo cb W q (rowS zss i) (rowS zss k) _ HR.out HL.out.symm hw1 hw2 hq q1 q2 (RI.out.on (Ext.drewN _ _)) (RK.out.on (Ext.drewN _ _)))))
  go_wp2
  go_ret2
  exact ⟨rfl, Ext.drewN _ _⟩
end Go.Proofs.Ytibldgcfplpdkaa
