/- Decimal: what both sides answer; the law's walk, where the table lies. -/
import Derived.Test.YtgejfeedcphfkaaDoorDec
import Derived.Test.YtgejfeedcphfkaaDoorShf
import Derived.Lib.SmallJoins
import Derived.Lib.AppendIntMem
namespace Go.Proofs.YtgejfeedcphfkaaDoor
open Go.ChangeShapes Go.WideShapes Go.ChangeAt Go.RowKit Go.Lib
set_option linter.unusedVariables false
def TabP (w : World) : Prop := Lib.TabIs Tryd.prog w "internal/strconv.uint64pow10" .u64 Lib.pow10Tab
def decT (n : Int) : ByteArray := ⟨(Lib.itoa n).toArray⟩
theorem TabP.on {w w' : World} (h : TabP w) (e : Ext w w') : TabP w' := Joins.tab_stays (g := 3) (by kernel_rfl) h e (Nat.le_refl _)
theorem c_fmt (n : Int) (w : World) (n0 : -9223372036854775808 ≤ n) (n1 : n ≤ 9223372036854775807) (hT : TabP w) :
    Calls Tryd.prog 107 #[.int .i64 n, .int .i64 10] w fun e w' => e = .returned (.string (decT n)) ∧ Ext w w' :=
  (Sh.strconv_FormatInt_10 n n0 n1 w hT).mono (by rintro e w' ⟨rfl, k, os, rfl⟩; exact ⟨rfl, Lib.below_grow _ w (Nat.le_refl _) k os⟩)
theorem c_impl_Decimal (n : Int) (w : World) (n0 : -9223372036854775808 ≤ n) (n1 : n ≤ 9223372036854775807) (hT : TabP w) :
    Calls Tryd.prog 94 #[.int .i64 n] w fun e w' => e = .returned (.string (decT n)) ∧ Ext w w' := by
  have HT := Lib.hid hT
  clear hT
  go_enter Tryd.func94, Tryd.ntmps94
  go_wp2_with (go_at_call 107; refine (c_fmt n _ n0 n1 HT.out).mono ?_; rintro e w' ⟨rfl, hx⟩)
  go_ret
  exact ⟨rfl, hx⟩
theorem c_dec (n : Int) (w : World) (n0 : -9223372036854775808 ≤ n) (n1 : n ≤ 9223372036854775807) :
    Calls Tryd.prog 76 #[.int .i64 n] w fun e w' => e = .returned (.string (decT n)) ∧ Ext w w' := c_spec_l01Dec n w n0 n1
end Go.Proofs.YtgejfeedcphfkaaDoor
