/-
  The library's functions without a body that these walks call: what each call gives.
-/
import Derived.Test.YtogdolnmcfemfaaChecked
import Derived.Test.YtogdolnmcfemfaaFlo
import Derived.Laws.Externs
namespace Go.Proofs.Ytogdolnmcfemfaa
open Ieee Go.RowKit

@[go_sem] theorem run_f32bits (a : Nat) (w : World) : (callFunc 29 #[.float .f32 a]).run Try.prog w = .ok (.value (.int .u32 a)) w := by
  rw [run_callFunc_extern (e := Extern.MathFloatBits.float32bits) Try.func29 (by kernel_rfl) (by kernel_rfl) (by kernel_rfl) (by kernel_rfl)]; rfl
@[go_sem] theorem run_f32from (a : Int) (w : World) : (callFunc 32 #[.int .u32 a]).run Try.prog w = .ok (.value (.float .f32 a.toNat)) w := by
  rw [run_callFunc_extern (e := Extern.MathFloatBits.float32frombits) Try.func32 (by kernel_rfl) (by kernel_rfl) (by kernel_rfl) (by kernel_rfl)]; rfl
@[go_sem] theorem run_f64bits (a : Nat) (w : World) : (callFunc 40 #[.float .f64 a]).run Try.prog w = .ok (.value (.int .u64 a)) w := by
  rw [run_callFunc_extern (e := Extern.MathFloatBits.float64bits) Try.func40 (by kernel_rfl) (by kernel_rfl) (by kernel_rfl) (by kernel_rfl)]; rfl
@[go_sem] theorem run_f64from (a : Int) (w : World) : (callFunc 39 #[.int .u64 a]).run Try.prog w = .ok (.value (.float .f64 a.toNat)) w := by
  rw [run_callFunc_extern (e := Extern.MathFloatBits.float64frombits) Try.func39 (by kernel_rfl) (by kernel_rfl) (by kernel_rfl) (by kernel_rfl)]; rfl
end Go.Proofs.Ytogdolnmcfemfaa
