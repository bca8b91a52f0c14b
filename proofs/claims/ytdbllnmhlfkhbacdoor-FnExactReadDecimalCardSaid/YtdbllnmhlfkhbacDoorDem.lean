/- Decimal: what both sides answer; the law's walk, where the table lies. -/
import Derived.Test.YtdbllnmhlfkhbacDoorDec
import Derived.Test.YtdbllnmhlfkhbacDoorShf
import Derived.Lib.SmallJoins
import Derived.Lib.AppendIntMem
namespace Go.Proofs.YtdbllnmhlfkhbacDoor
open Go.ChangeShapes Go.WideShapes Go.ChangeAt Go.RowKit Go.Lib
set_option linter.unusedVariables false
def TabP (w : World) : Prop := Lib.TabIs Tryd.prog w "internal/strconv.uint64pow10" .u64 Lib.pow10Tab
def decT (n : Int) : ByteArray := ⟨(Lib.itoa n).toArray⟩
theorem TabP.on {w w' : World} (h : TabP w) (e : Ext w w') : TabP w' := Joins.tab_stays (g := 3) (by kernel_rfl) h e (Nat.le_refl _)
theorem c_fmt (n : Int) (w : World) (n0 : -9223372036854775808 ≤ n) (n1 : n ≤ 9223372036854775807) (hT : TabP w) :
    Calls Tryd.prog 41 #[.int .i64 n, .int .i64 10] w fun e w' => e = .returned (.string (decT n)) ∧ Ext w w' :=
  (Sh.strconv_FormatInt_10 n n0 n1 w hT).mono (by rintro e w' ⟨rfl, k, os, rfl⟩; exact ⟨rfl, Lib.below_grow _ w (Nat.le_refl _) k os⟩)
theorem c_impl_Decimal (n : Int) (w : World) (n0 : -9223372036854775808 ≤ n) (n1 : n ≤ 9223372036854775807) (hT : TabP w) :
    Calls Tryd.prog 22 #[.int .i64 n] w fun e w' => e = .returned (.string (decT n)) ∧ Ext w w' := by
  have HT := Lib.hid hT
  clear hT
  go_enter Tryd.func22, Tryd.ntmps22
  go_wp2_with (go_at_call 41; refine (c_fmt n _ n0 n1 HT.out).mono ?_; rintro e w' ⟨rfl, hx⟩)
  go_ret
  exact ⟨rfl, hx⟩
theorem c_dec (n : Int) (w : World) (n0 : -9223372036854775808 ≤ n) (n1 : n ≤ 9223372036854775807) :
    Calls Tryd.prog 40 #[.int .i64 n] w fun e w' => e = .returned (.string (decT n)) ∧ Ext w w' := c_spec_l01Dec n w n0 n1
theorem c_spec_Decimal (n : Int) (w : World) (n0 : -9223372036854775808 ≤ n) (n1 : n ≤ 9223372036854775807) :
    Calls Tryd.prog 21 #[.int .i64 n] w fun e w' => e = .returned (.string (decT n)) ∧ Ext w w' := by
  go_enter Tryd.func21, Tryd.ntmps21
  go_wp2_with (go_at_call 40; refine (c_dec n _ n0 n1).mono ?_; rintro e w' ⟨rfl, hx⟩)
  go_ret
  exact ⟨rfl, hx⟩
theorem walk_FnExactDecimal (a0 : Int) (w : World) (w0 : (Lit.int .i64 a0).wf = true) (hT : TabP w) :
    Calls Tryd.prog 5 #[.int .i64 a0] w fun e w' => e = .returned (.bool true) ∧ Below w.heap.size w w' := by
  obtain ⟨n0, n1⟩ : -9223372036854775808 ≤ a0 ∧ a0 ≤ 9223372036854775807 := by
    have h1 : IntKind.i64.min = -9223372036854775808 := by decide
    have h2 : IntKind.i64.max = 9223372036854775807 := by decide
    simpa [Lit.wf, h1, h2] using w0
  have HT := Lib.hid hT
  clear hT w0
  obtain ⟨s, hs⟩ : ∃ s, decT a0 = s := ⟨_, rfl⟩
  have HS := Lib.hid hs
  clear hs
  go_enter Tryd.func5, Tryd.ntmps5
  go_wp2_with fail
  refine (c_spec_Decimal a0 _ n0 n1).mono ?_
  rintro e u1 ⟨rfl, x1⟩
  have X1 := Lib.hid x1
  clear x1
  rw [HS.out]
  go_wp2_with fail
  refine (c_impl_Decimal a0 _ n0 n1 (HT.out.on X1.out)).mono ?_
  rintro e u2 ⟨rfl, x2⟩
  have X2 := Lib.hid x2
  clear x2
  rw [HS.out]
  go_wp2
  go_ret
  exact ⟨rfl, X1.out.trans X2.out⟩
end Go.Proofs.YtdbllnmhlfkhbacDoor
