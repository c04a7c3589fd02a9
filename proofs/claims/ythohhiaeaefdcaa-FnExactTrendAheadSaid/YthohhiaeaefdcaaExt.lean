/-
  The library's functions without a body that these walks call: what each call gives.
-/
import Derived.Test.YthohhiaeaefdcaaChecked
import Derived.Test.YthohhiaeaefdcaaFlo
import Derived.Laws.Externs
namespace Go.Proofs.Ythohhiaeaefdcaa
open Ieee Go.RowKit

@[go_sem] theorem run_f32bits (a : Nat) (w : World) : (callFunc 92 #[.float .f32 a]).run Try.prog w = .ok (.value (.int .u32 a)) w := by
  rw [run_callFunc_extern (e := Extern.MathFloatBits.float32bits) Try.func92 (by kernel_rfl) (by kernel_rfl) (by kernel_rfl) (by kernel_rfl)]; rfl
@[go_sem] theorem run_f64bits (a : Nat) (w : World) : (callFunc 100 #[.float .f64 a]).run Try.prog w = .ok (.value (.int .u64 a)) w := by
  rw [run_callFunc_extern (e := Extern.MathFloatBits.float64bits) Try.func100 (by kernel_rfl) (by kernel_rfl) (by kernel_rfl) (by kernel_rfl)]; rfl
@[go_sem] theorem run_f64from (a : Int) (w : World) : (callFunc 98 #[.int .u64 a]).run Try.prog w = .ok (.value (.float .f64 a.toNat)) w := by
  rw [run_callFunc_extern (e := Extern.MathFloatBits.float64frombits) Try.func98 (by kernel_rfl) (by kernel_rfl) (by kernel_rfl) (by kernel_rfl)]; rfl
end Go.Proofs.Ythohhiaeaefdcaa
