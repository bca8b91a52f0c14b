/- FnPowers: contracts on the way to the law's walk (b10Long, b10At, ExpNumber at eighths); the walk itself: see NOTES. -/
import Derived.Test.YtnjkpapjioeffacPow
namespace Go.Proofs.Ytnjkpapjioeffac
open Go.ChangeShapes Go.WideShapes Go.ChangeAt Go.RowKit Go.Proofs.Ytnjkpapjioeffac.Flo
set_option linter.unusedVariables false
attribute [local go_sem] unary_neg_float run_store_float run_store_complex ext_Float32bits ext_Float64bits ext_Float32frombits ext_Float64frombits ext_sqrt

/-- a slice of integers that came in -/
def IsRow (k : IntKind) (w : World) (a : Option Addr) (len cap : Nat) (zs : List Int) : Prop :=
  (a = none ∧ len = 0 ∧ cap = 0 ∧ zs = []) ∨
  ∃ x : Addr, a = some x ∧ len ≤ cap ∧ cap ≤ maxLen ∧ zs.length = cap ∧ (∀ i, i < zs.length → w.cell? (x.add i) = some (.int k (zs.getD i 0))) ∧ ∀ n ∈ zs, (Lit.int k n).wf = true
def RetK (n : Nat) (w : World) (e : Ending) (w' : World) : Prop := ∃ k : Nat, k < n ∧ e = .returned (.int .i64 (k : Int)) ∧ w' = w
theorem RetK.mk {n : Nat} {w : World} {z : Int} (h0 : 0 ≤ z) (h1 : z < n) : RetK n w (.returned (.int .i64 z)) w := ⟨z.toNat, by omega, by rw [Int.toNat_of_nonneg h0], rfl⟩
theorem c_b10At (a : Option Addr) (len cap : Nat) (zs : List Int) (w : World) (h : IsRow .u8 w a len cap zs) : Calls Try.prog 27 #[.slice a len cap, .int .i64 0, .int .i64 65] w (RetK 65 w) := by
  rcases h with ⟨rfl, rfl, rfl, rfl⟩ | ⟨⟨b, off, sp⟩, rfl, hl, hm, hz, hcell, hwz⟩
  · go_enter Try.func27, Try.ntmps27
    go_wp2
    go_ret
    exact RetK.mk (by decide) (by decide)
  · unfold maxLen at hm
    by_cases h0 : len = 0
    · subst h0
      clear hcell hwz hz
      go_enter Try.func27, Try.ntmps27
      go_wp2
      go_ret
      exact RetK.mk (by decide) (by decide)
    · have hc0 := hcell 0 (by omega)
      have hmem : zs.getD 0 0 ∈ zs := by
        cases zs with
        | nil => simp at hz; omega
        | cons z zs => simp
      have hw0 := hwz _ hmem
      generalize zs.getD 0 0 = z at *
      have hb : 0 ≤ z ∧ z ≤ 255 := by
        have hw : IntKind.u8.min ≤ z ∧ z ≤ IntKind.u8.max := by simpa [Lit.wf] using hw0
        have e1 : IntKind.u8.min = 0 := rfl
        have e2 : IntKind.u8.max = 255 := rfl
        rw [e1, e2] at hw
        exact hw
      have hlen : (0 : Int) < (len : Int) := by omega
      have hspot : sp = none := by simpa [Addr.add] using World.cell?_spot hc0
      subst hspot
      have hc1 : w.cell? ⟨b, off, none⟩ = some (.int .u8 z) := hc0
      clear hc0
      clear hcell hwz hz hmem hw0
      obtain ⟨hb0, hb1⟩ := hb
      go_enter Try.func27, Try.ntmps27
      go_wp2
      go_ret
      exact RetK.mk (by omega) (by omega)
theorem c_b10Long (a a' : Option Addr) (len cap len' cap' : Nat) (w : World) (b : Bool) (hb : (decide (1048576 < (len : Int)) || decide (1048576 < (len' : Int))) = b) : Calls Try.prog 26 #[.slice a len cap, .slice a' len' cap'] w fun e w' => e = .returned (.bool b) ∧ w = w' := by
  subst hb
  by_cases h : 1048576 < (len : Int)
  · have HD := Lib.hid (decide_eq_true h)
    go_enter Try.func26, Try.ntmps26
    go_wp2
    go_ret
    exact ⟨by rw [HD.out]; rfl, rfl⟩
  · have HD := Lib.hid (decide_eq_false h)
    go_enter Try.func26, Try.ntmps26
    go_wp2
    go_ret
    exact ⟨by rw [HD.out]; rfl, rfl⟩
theorem at_range {p : Nat → Bool} {n : Nat} (h : (List.range n).all p = true) (k : Nat) (hk : k < n) : p k = true := List.all_eq_true.1 h k (List.mem_range.2 hk)
theorem at_range2 {p : Nat → Nat → Bool} {n : Nat} (h : ((List.range n).all fun k => (List.range n).all fun l => p k l) = true) (k l : Nat) (hk : k < n) (hl : l < n) : p k l = true := at_range (at_range (p := fun k => (List.range n).all fun l => p k l) h k hk) l hl
theorem fv_eq32 {r b : Nat} (h : fv .f32 r = some b) : r = b := by
  rcases fv_cases .f32 r with ⟨_, h'⟩ | ⟨_, h'⟩
  · rw [h'] at h; cases h
  · rw [h'] at h; exact Option.some.inj h
theorem tabX_at (k : Nat) (hk : k < 65) : fop .quo .f32 (fv .f32 (floatOfInt .f32 ((k : Int) - 32))) c8 = some (X (k + 32)) := eq_of_beq (at_range all1 k hk)
theorem tabX_add (k l : Nat) (hk : k < 65) (hl : l < 65) : fop .add .f32 (fv .f32 (X (k + 32))) (fv .f32 (X (l + 32))) = some (X (k + l)) := eq_of_beq (at_range2 all2 k l hk hl)
theorem tabE_at (n : Nat) (hn : n < 129) : (FloatKind.f32.format.order (X n) 1128792064 == some .gt) = false ∧ (FloatKind.f32.format.order (X n) 3276275712 == some .lt) = false ∧ slim (expV (wide (fv .f32 (X n)))) = some (E n) ∧ fv .f32 (E n) = some (E n) := by
  have h := at_range all3 n hn
  unfold chk3 at h
  simp only [Bool.and_eq_true, Bool.not_eq_true', beq_iff_eq] at h
  obtain ⟨⟨⟨h1, h2⟩, h3⟩, h4⟩ := h
  exact ⟨h1, h2, h3, h4⟩
theorem c_Exp_at (n : Nat) (hn : n < 129) (w : World) : Calls Try.prog 23 #[.float .f32 (X n)] w fun e w' => e = .returned (.float .f32 (E n)) ∧ ∃ k, w' = w.drewN k := by
  obtain ⟨h1, h2, h3, h4⟩ := tabE_at n hn
  refine (c_impl_Exp (X n) w h1 h2 (.inr (by rw [h3]; rfl))).mono ?_
  rintro e w' ⟨r, k, rfl, rfl, hr⟩
  rw [h3] at hr
  obtain rfl := fv_eq32 hr
  exact ⟨rfl, k, rfl⟩
theorem IsRow.drew {k : IntKind} {w : World} {a : Option Addr} {len cap : Nat} {zs : List Int} (h : IsRow k w a len cap zs) (n : Nat) : IsRow k (w.drewN n) a len cap zs := h
end Go.Proofs.Ytnjkpapjioeffac
