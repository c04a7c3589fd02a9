/-
  The library's functions without a body that these walks call: what each call gives.
-/
import Derived.Test.YtopgegciejmhaaaChecked
import Derived.Test.YtopgegciejmhaaaFlo
import Derived.Laws.Externs
namespace Go.Proofs.Ytopgegciejmhaaa
open Ieee Go.RowKit

@[go_sem] theorem run_f32from (a : Int) (w : World) : (callFunc 202 #[.int .u32 a]).run Try.prog w = .ok (.value (.float .f32 a.toNat)) w := by
  rw [run_callFunc_extern (e := Extern.MathFloatBits.float32frombits) Try.func202 (by kernel_rfl) (by kernel_rfl) (by kernel_rfl) (by kernel_rfl)]; rfl
@[go_sem] theorem run_f64bits (a : Nat) (w : World) : (callFunc 201 #[.float .f64 a]).run Try.prog w = .ok (.value (.int .u64 a)) w := by
  rw [run_callFunc_extern (e := Extern.MathFloatBits.float64bits) Try.func201 (by kernel_rfl) (by kernel_rfl) (by kernel_rfl) (by kernel_rfl)]; rfl
@[go_sem] theorem run_f64from (a : Int) (w : World) : (callFunc 200 #[.int .u64 a]).run Try.prog w = .ok (.value (.float .f64 a.toNat)) w := by
  rw [run_callFunc_extern (e := Extern.MathFloatBits.float64frombits) Try.func200 (by kernel_rfl) (by kernel_rfl) (by kernel_rfl) (by kernel_rfl)]; rfl
end Go.Proofs.Ytopgegciejmhaaa
