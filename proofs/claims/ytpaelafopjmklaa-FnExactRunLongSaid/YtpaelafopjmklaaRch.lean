/-
  'isReach' of the program; numbers held against 0.
-/
import Derived.Test.YtpaelafopjmklaaFnn
namespace Go.Proofs.Ytpaelafopjmklaa
open Ieee Go.RowKit
set_option linter.unusedVariables false

theorem lt_ge {x : Nat} (h : fin .f32 x = true) : ((FloatKind.format .f32).order x 0 == some Ordering.lt) = !geB x := by
  have hn := order_fin h (y := 0) (by decide +kernel)
  unfold geB
  cases ho : (FloatKind.format .f32).order x 0 with
  | none => exact absurd ho hn
  | some o => cases o <;> rfl
theorem le_pos {x : Nat} (h : fin .f32 x = true) : ((FloatKind.format .f32).order x 0 == some Ordering.lt || (FloatKind.format .f32).order x 0 == some Ordering.eq) = !posB x := by
  have hn := order_fin h (y := 0) (by decide +kernel)
  unfold posB
  cases ho : (FloatKind.format .f32).order x 0 with
  | none => exact absurd ho hn
  | some o => cases o <;> rfl
end Go.Proofs.Ytpaelafopjmklaa
