/-
  The library's functions without a body that these walks call: what each call gives.
-/
import Derived.Test.YtlcdbfijjjobjaaChecked
import Derived.Test.YtlcdbfijjjobjaaFlo
import Derived.Laws.Externs
namespace Go.Proofs.Ytlcdbfijjjobjaa
open Ieee Go.RowKit

@[go_sem] theorem run_f64bits (a : Nat) (w : World) : (callFunc 78 #[.float .f64 a]).run Try.prog w = .ok (.value (.int .u64 a)) w := by
  rw [run_callFunc_extern (e := Extern.MathFloatBits.float64bits) Try.func78 (by kernel_rfl) (by kernel_rfl) (by kernel_rfl) (by kernel_rfl)]; rfl
@[go_sem] theorem run_f64from (a : Int) (w : World) : (callFunc 77 #[.int .u64 a]).run Try.prog w = .ok (.value (.float .f64 a.toNat)) w := by
  rw [run_callFunc_extern (e := Extern.MathFloatBits.float64frombits) Try.func77 (by kernel_rfl) (by kernel_rfl) (by kernel_rfl) (by kernel_rfl)]; rfl
end Go.Proofs.Ytlcdbfijjjobjaa
