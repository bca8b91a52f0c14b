/- NearPairs: differences; the closure. -/
import Derived.Test.YtibldgcfplpdkaaNpd
import Derived.Deep.RegionHeld3
import Derived.Deep.DeepCutAuto
import Derived.BigQuiet
namespace Go.Proofs.Ytibldgcfplpdkaa
open Go.ChangeShapes Go.WideShapes Go.ChangeAt Go.RowKit
open Go.Proofs.Ytibldgcfplpdkaa.Flo
set_option linter.unusedVariables false
attribute [local go_sem] run_store_float
def subF (x y : Nat) : Nat := (floatBits .sub .f32 x y).getD 0
theorem sub_some {x y : Nat} (hx : isFin .f32 x = true) (hy : isFin .f32 y = true) : floatBits .sub .f32 x y = some (subF x y) := by
  obtain ⟨s, m, e, h1⟩ := isFin_number hx
  obtain ⟨t, n, f, h2⟩ := isFin_number hy
  have h3 : ∃ r, floatBits .sub .f32 x y = some r := by
    have h0 : floatBits .sub .f32 x y = FloatKind.f32.format.sub x y := rfl
    rw [h0]
    unfold Ieee.Format.sub
    have h1' : FloatKind.f32.format.read x = .number s m e := h1
    have h2' : FloatKind.f32.format.read y = .number t n f := h2
    rw [h1', h2']
    exact ⟨_, rfl⟩
  obtain ⟨r, hr⟩ := h3
  unfold subF; rw [hr]; rfl
theorem sub_lt {x y : Nat} (hx : isFin .f32 x = true) (hy : isFin .f32 y = true) : subF x y < 4294967296 := by
  have := lt_of_wf (floatBits_wf (sub_some hx hy))
  exact this
theorem run_subF {P : Program} {t : TypeId} {x y : Nat} (hx : isFin .f32 x = true) (hy : isFin .f32 y = true) (w : World) : (binOp .sub t (.float .f32 x) (.float .f32 y)).run P w = .ok (.float .f32 (subF x y)) w := by
  rw [run_fl_sub]
  have h1 : flR w .sub .f32 x y = subF x y := by unfold flR; rw [sub_some hx hy]; rfl
  have h2 : flD .sub .f32 x y = 0 := by unfold flD; rw [sub_some hx hy]; rfl
  rw [h1, h2, World.drewN_zero]
def diffL (xs ys : List Nat) : List Nat := (List.range xs.length).map fun i => subF (xs[i]?.getD 0) (ys[i]?.getD 0)
theorem diffL_length (xs ys : List Nat) : (diffL xs ys).length = xs.length := by simp [diffL]
theorem diffL_get (xs ys : List Nat) (i : Nat) (h : i < xs.length) : (diffL xs ys)[i]?.getD 0 = subF (xs[i]?.getD 0) (ys[i]?.getD 0) := by simp [diffL, h]
theorem diffL_bits {xs ys : List Nat} (hx : finB xs = true) (hy : finB ys = true) (hl : ys.length = xs.length) : ∀ z ∈ diffL xs ys, z < 4294967296 := by
  intro z hz
  unfold diffL at hz
  obtain ⟨i, hi, rfl⟩ := List.mem_map.1 hz
  rw [List.mem_range] at hi
  exact sub_lt (finB_at hx hi) (finB_at hy (by omega))
def leF (x y : Nat) : Bool := FloatKind.f32.format.order x y == some .lt || FloatKind.f32.format.order x y == some .eq
def leV (v u : Option Nat) : Bool := ford .f32 v u == some .lt || ford .f32 v u == some .eq
theorem leF_fv (x y : Nat) : leF x y = leV (fv .f32 x) (fv .f32 y) := by unfold leF leV; rw [order_ford]
set_option maxHeartbeats 1000000 in
theorem c_differences (a : Option Addr) (n cap : Nat) (xs : List Nat) (a' : Option Addr) (cap' : Nat) (ys : List Nat) (w : World) (hn : n ≤ 32) (hx : finB xs = true) (hy : finB ys = true) (h : Reads w a n (flos xs)) (h' : Reads w a' n (flos ys)) :
    Calls Try.prog 126 #[.slice a n cap, .slice a' n cap'] w (RetS 37 n (flos (diffL xs ys)) w) := by
  obtain ⟨hz, hr⟩ := h.flo
  obtain ⟨hz', hr'⟩ := h'.flo
  have hmk := run_make_row' (P := Try.prog) 33 37 (.float .f32 0) 4 Try.underlying33 info_f32 rfl .i64 .i64 n (by omega) (by omega)
  have HX := Lib.hid hx
  have HY := Lib.hid hy
  have HZ := Lib.hid hz
  have HZ' := Lib.hid hz'
  have HC := Lib.hid hr
  have HC' := Lib.hid hr'
  have hnI : (n : Int) ≤ 32 := by omega
  clear h h' hx hy hz hz' hr hr'
  go_enter Try.func126, Try.ntmps126
  go_wp2
  go_loopw [13] (fun i wr => ∃ k : Nat, k ≤ n ∧ i = .int .i64 k ∧ wr.rowIs w.heap.size 37 n (fillFG (diffL xs ys) k) ∧ Ext w wr) (fun i _ => n - (intOf i).toNat)
  case atStart => exact ⟨0, Nat.zero_le _, rfl, (World.rowIs_made _ _ _ _).congr fun i _ => rfl, Ext.alloc _ _⟩
  case round =>
    obtain ⟨k, hk, rfl, hrow, hext⟩ := hrel
    have HRW := Lib.hid hrow
    have HE := Lib.hid hext
    by_cases hlt : k < n
    · have hltI : (k : Int) < (n : Int) := by omega
      rcases HC.out with h0 | ⟨b, off, rfl, hc⟩
      · omega
      rcases HC'.out with h0 | ⟨b', off', rfl, hc'⟩
      · omega
      have c1 := HE.out.some (hc k hlt)
      have c2 := HE.out.some (hc' k hlt)
      have f1 := finB_at HX.out (i := k) (by rw [HZ.out]; exact hlt)
      have f2 := finB_at HY.out (i := k) (by rw [HZ'.out]; exact hlt)
      have g1 := diffL_get xs ys k (by rw [HZ.out]; exact hlt)
      obtain ⟨x, hx⟩ : ∃ x, xs[k]?.getD 0 = x := ⟨_, rfl⟩
      obtain ⟨y, hy⟩ : ∃ y, ys[k]?.getD 0 = y := ⟨_, rfl⟩
      rw [hx] at c1 f1 g1
      rw [hy] at c2 f2 g1
      have hsub := fun wx : World => run_subF (P := Try.prog) (t := 37) f1 f2 wx
      obtain ⟨d, hd⟩ : ∃ d, subF x y = d := ⟨_, rfl⟩
      rw [hd] at hsub g1
      have hcur := hrow.cell hlt
      have hfro := hrow.frozen k
      have HST := Lib.hid (show (wr.setCell ⟨w.heap.size, k, none⟩ (.float .f32 d)).rowIs w.heap.size 37 n (fillFG (diffL xs ys) (k + 1)) by
        have := fillFG_step (diffL xs ys) k hrow
        rw [g1] at this
        exact this)
      have HE2 := Lib.hid (show Ext w (wr.setCell ⟨w.heap.size, k, none⟩ (.float .f32 d)) from Below.setCell hext (Nat.le_refl _) _)
      clear hrow hext hc hc' hx hy f1 f2 g1 hd
      go_wp2
      go_roundw
      case rel => exact ⟨k + 1, by omega, by go_num, HST.out, HE2.out⟩
      case measure => simp [intOf]; omega
    · obtain rfl : k = n := by omega
      have hltI : ¬ (k : Int) < (k : Int) := by omega
      clear hrow hext
      go_wp2
      go_ret
      exact ⟨_, _, rfl, own_made (by rw [flos_length, diffL_length, HZ.out]) (Nat.le_refl _) HRW.out (fun i hi => by rw [flos_get _ i (by rw [diffL_length, HZ.out]; exact hi)]; unfold fillFG; rw [if_pos hi]), HE.out⟩
set_option maxRecDepth 100000 in
set_option maxHeartbeats 4000000 in
theorem c_np1 (gl gw : Nat) (b off n cap : Nat) (hs : Nat → Hd) (zss : List (List Nat)) (far L : Nat) (w : World) (i k : Nat) {v : Option Nat} {r rb : Bool} (hv : normR (diffL (rowS zss i) (rowS zss k)) = (v, rb)) (hr : leV v (fv .f32 far) = r) (hL : L ≤ 32) (hi : i < n) (hk : k < n) (hn : n ≤ 1048576)
    (hg : w.cell? ⟨gl, 0, none⟩ = some (.slice (some ⟨b, off, none⟩) n cap)) (hw : w.cell? ⟨gw, 0, none⟩ = some (.float .f32 far)) (ci : w.cell? ⟨b, off + i, none⟩ = some (.slice (hs i).a L (hs i).c)) (ck : w.cell? ⟨b, off + k, none⟩ = some (.slice (hs k).a L (hs k).c)) (ri : Reads w (hs i).a L (flos (rowS zss i))) (rk : Reads w (hs k).a L (flos (rowS zss k))) (fi : finB (rowS zss i) = true) (fk : finB (rowS zss k) = true) :
    Calls Try.prog 124 #[.int .i64 (i : Int), .int .i64 (k : Int), .pointer (some ⟨gl, 0, none⟩), .pointer (some ⟨gw, 0, none⟩)] w fun e w' => e = .returned (.tuple #[.bool r, .bool rb]) ∧ Ext w w' := by
  have RI := Lib.hid ri
  have RK := Lib.hid rk
  have FI := Lib.hid fi
  have FK := Lib.hid fk
  have HV := Lib.hid hv
  have HR := Lib.hid hr
  have HW := Lib.hid hw
  have HBT := Lib.hid (diffL_bits fi fk (by rw [rk.flo.1, ri.flo.1]))
  obtain ⟨ai, hai⟩ : ∃ a, (hs i).a = a := ⟨_, rfl⟩
  obtain ⟨ak, hak⟩ : ∃ a, (hs k).a = a := ⟨_, rfl⟩
  obtain ⟨ca, hca⟩ : ∃ c, (hs i).c = c := ⟨_, rfl⟩
  obtain ⟨cb, hcb⟩ : ∃ c, (hs k).c = c := ⟨_, rfl⟩
  rw [hai] at ci RI
  rw [hak] at ck RK
  rw [hca] at ci
  rw [hcb] at ck
  have hiI : (i : Int) < (n : Int) := by omega
  have hkI : (k : Int) < (n : Int) := by omega
  have hLm : L ≤ 1048576 := by omega
  clear hv hr ri rk fi fk hai hak hca hcb
  go_enter Try.func124, Try.ntmps124
  go_upto_region 1 with fail
  first | (go_region_held3 (fun w' => w'.cell? ⟨gl, 0, none⟩ = some (.slice (some ⟨b, off, none⟩) n cap) ∧ w'.cell? ⟨b, off + i, none⟩ = some (.slice ai L ca) ∧ w'.cell? ⟨b, off + k, none⟩ = some (.slice ak L cb)) (first | exact KA | go_keep) (first | (go_at_call 126; refine (c_differences _ L _ (rowS zss i) _ _ (rowS zss k) _ hL FI.out FK.out (RI.out.on (by (repeat (first | assumption | exact Ext.refl _ | (with_reducible refine Ext.stepS ?_ (by first | exact Nat.le_refl _ | (simp; done) | (simp; omega)) _) | (with_reducible refine Ext.stepN ?_ _) | (with_reducible refine Ext.stepD ?_) | (with_reducible refine Ext.stepA ?_ _))))) (RK.out.on (by (repeat (first | assumption | exact Ext.refl _ | (with_reducible refine Ext.stepS ?_ (by first | exact Nat.le_refl _ | (simp; done) | (simp; omega)) _) | (with_reducible refine Ext.stepN ?_ _) | (with_reducible refine Ext.stepD ?_) | (with_reducible refine Ext.stepA ?_ _)))))).mono ?_; rintro e u1 ⟨a1, c1, rfl, o1, x1⟩; have E1 : Ext w u1 := Ext.trans (by (repeat (first | assumption | exact Ext.refl _ | (with_reducible refine Ext.stepS ?_ (by first | exact Nat.le_refl _ | (simp; done) | (simp; omega)) _) | (with_reducible refine Ext.stepN ?_ _) | (with_reducible refine Ext.stepD ?_) | (with_reducible refine Ext.stepA ?_ _)))) x1; have KA : u1.cell? ⟨gl, 0, none⟩ = some (.slice (some ⟨b, off, none⟩) n cap) ∧ u1.cell? ⟨b, off + i, none⟩ = some (.slice ai L ca) ∧ u1.cell? ⟨b, off + k, none⟩ = some (.slice ak L cb) := ⟨E1.some hg, E1.some ci, E1.some ck⟩; have HE1 := Lib.hid E1; have O1 := Lib.hid o1; clear E1 o1 x1) | (go_at_call 125; refine (c_impl_NormOf _ L _ (diffL (rowS zss i) (rowS zss k)) _ HV.out hLm (O1.out.reads) HBT.out).mono ?_; rintro e u2 ⟨f, rfl, hf, x2⟩; have HE2 := Lib.hid (HE1.out.trans x2); have HF := Lib.hid hf; clear KA; have KA : u2.cell? ⟨gl, 0, none⟩ = some (.slice (some ⟨b, off, none⟩) n cap) ∧ u2.cell? ⟨b, off + i, none⟩ = some (.slice ai L ca) ∧ u2.cell? ⟨b, off + k, none⟩ = some (.slice ak L cb) := ⟨HE2.out.some hg, HE2.out.some ci, HE2.out.some ck⟩; clear hf x2))) | fail
  all_goals
    have hle : (FloatKind.f32.format.order f far == some .lt || FloatKind.f32.format.order f far == some .eq) = r := by
      have := leF_fv f far
      rw [HF.out, HR.out] at this
      exact this
    have cw := HE2.out.some HW.out
    clear KA hg ci ck hw
    go_wp2
    go_ret2
    exact ⟨rfl, HE2.out⟩
end Go.Proofs.Ytibldgcfplpdkaa
