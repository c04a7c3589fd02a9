/-
  The library's functions without a body that these walks call: what each call gives.
-/
import Derived.Test.YtndmffkpbihcmaaChecked
import Derived.Test.YtndmffkpbihcmaaFlo
import Derived.Laws.Externs
namespace Go.Proofs.Ytndmffkpbihcmaa
open Ieee Go.RowKit

@[go_sem] theorem run_f32from (a : Int) (w : World) : (callFunc 112 #[.int .u32 a]).run Try.prog w = .ok (.value (.float .f32 a.toNat)) w := by
  rw [run_callFunc_extern (e := Extern.MathFloatBits.float32frombits) Try.func112 (by kernel_rfl) (by kernel_rfl) (by kernel_rfl) (by kernel_rfl)]; rfl
@[go_sem] theorem run_f64bits (a : Nat) (w : World) : (callFunc 124 #[.float .f64 a]).run Try.prog w = .ok (.value (.int .u64 a)) w := by
  rw [run_callFunc_extern (e := Extern.MathFloatBits.float64bits) Try.func124 (by kernel_rfl) (by kernel_rfl) (by kernel_rfl) (by kernel_rfl)]; rfl
@[go_sem] theorem run_f64from (a : Int) (w : World) : (callFunc 123 #[.int .u64 a]).run Try.prog w = .ok (.value (.float .f64 a.toNat)) w := by
  rw [run_callFunc_extern (e := Extern.MathFloatBits.float64frombits) Try.func123 (by kernel_rfl) (by kernel_rfl) (by kernel_rfl) (by kernel_rfl)]; rfl
end Go.Proofs.Ytndmffkpbihcmaa
