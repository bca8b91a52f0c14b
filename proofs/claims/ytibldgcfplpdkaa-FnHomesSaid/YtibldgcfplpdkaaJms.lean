/- JumpHome: the other side. -/
import Derived.Test.YtibldgcfplpdkaaJmp
namespace Go.Proofs.Ytibldgcfplpdkaa
open Go.ChangeShapes Go.WideShapes Go.ChangeAt Go.RowKit Go.Proofs.Ytibldgcfplpdkaa.Flo
set_option linter.unusedVariables false
theorem toFloorD (x : Nat) {s : Bool} {m : Nat} {e : Int} (hd : FloatKind.f64.decode x = .number s m e) : Extern.MathFloor.toIntegral "math.archFloor" .down #[.float .f64 x] = pure (.float .f64 (floorD x)) := by
  unfold floorD
  delta Extern.MathFloor.toIntegral
  generalize FloatKind.f64.decode = dec at *
  refine Eq.trans (congrArg (fun d => Extern.MathFloor.toIntegral.match_1 (fun _ => Sem Value) d _ (fun d => pure (.float .f64 (FloatKind.f64.encode (d.integral .down))))) hd) ?_
  rw [hd]
theorem ext_archFloorD (x : Nat) (w : World) {s : Bool} {m : Nat} {e : Int} (hd : FloatKind.f64.decode x = .number s m e) : (callFunc 311 #[.float .f64 x]).run Try.prog w = .ok (.value (.float .f64 (floorD x))) w := by
  rw [run_callFunc_extern (fn := Try.f311) (e := Extern.MathFloor.toIntegral "math.archFloor" .down) (by kernel_rfl) (by kernel_rfl) (by kernel_rfl) (by kernel_rfl) (by kernel_rfl)]
  rw [toFloorD x hd]
  rfl
theorem c_FloorD (x : Nat) (w : World) {s : Bool} {m : Nat} {e : Int} (hd : FloatKind.f64.decode x = .number s m e) : Calls Try.prog 298 #[.float .f64 x] w fun e w' => e = .returned (.float .f64 (floorD x)) ∧ w = w' := by
  have hx : ∀ wx : World, (callFunc 311 #[.float .f64 x]).run Try.prog wx = .ok (.value (.float .f64 (floorD x))) wx := fun wx => ext_archFloorD x wx hd
  clear hd
  go_enter Try.func298, Try.ntmps298
  go_wp2
  go_ret
  exact ⟨rfl, rfl⟩
end Go.Proofs.Ytibldgcfplpdkaa
