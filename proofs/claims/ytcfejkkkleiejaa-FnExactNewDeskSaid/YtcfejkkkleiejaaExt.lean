/-
  The library's functions without a body that these walks call: what each call gives.
-/
import Derived.Test.YtcfejkkkleiejaaChecked
import Derived.Test.YtcfejkkkleiejaaFlo
import Derived.Laws.Externs
namespace Go.Proofs.Ytcfejkkkleiejaa
open Ieee Go.RowKit

@[go_sem] theorem run_f64bits (a : Nat) (w : World) : (callFunc 32 #[.float .f64 a]).run Try.prog w = .ok (.value (.int .u64 a)) w := by
  rw [run_callFunc_extern (e := Extern.MathFloatBits.float64bits) Try.func32 (by kernel_rfl) (by kernel_rfl) (by kernel_rfl) (by kernel_rfl)]; rfl
@[go_sem] theorem run_f64from (a : Int) (w : World) : (callFunc 31 #[.int .u64 a]).run Try.prog w = .ok (.value (.float .f64 a.toNat)) w := by
  rw [run_callFunc_extern (e := Extern.MathFloatBits.float64frombits) Try.func31 (by kernel_rfl) (by kernel_rfl) (by kernel_rfl) (by kernel_rfl)]; rfl
end Go.Proofs.Ytcfejkkkleiejaa
