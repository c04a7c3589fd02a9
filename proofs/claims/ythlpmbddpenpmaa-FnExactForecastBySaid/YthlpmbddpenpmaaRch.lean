/-
  'isReach' of the program; numbers held against 0.
-/
import Derived.Test.YthlpmbddpenpmaaFnn
namespace Go.Proofs.Ythlpmbddpenpmaa
open Ieee Go.RowKit
set_option linter.unusedVariables false

theorem reach_any (n : Int) (w : World) : Calls Try.prog 76 #[.int .i64 n] w fun e w' => e = .returned (.bool (decide (1 ≤ n ∧ n ≤ 32))) ∧ w = w' := by
  by_cases h1 : 1 ≤ n
  · by_cases h2 : n ≤ 32
    · have d1 : decide ((1 : Int) ≤ n) = true := decide_eq_true h1
      have d2 : decide (n ≤ (32 : Int)) = true := decide_eq_true h2
      have HB := Lib.hid (decide_eq_true (show 1 ≤ n ∧ n ≤ 32 from ⟨h1, h2⟩))
      go_enter Try.func76, Try.ntmps76
      go_wp2
      go_ret
      exact ⟨by first | rfl | (rw [HB.out]; rfl), rfl⟩
    · have d1 : decide ((1 : Int) ≤ n) = true := decide_eq_true h1
      have d2 : decide (n ≤ (32 : Int)) = false := decide_eq_false h2
      have HB := Lib.hid (decide_eq_false (show ¬ (1 ≤ n ∧ n ≤ 32) from fun h => h2 h.2))
      go_enter Try.func76, Try.ntmps76
      go_wp2
      go_ret
      exact ⟨by first | rfl | (rw [HB.out]; rfl), rfl⟩
  · have d1 : decide ((1 : Int) ≤ n) = false := decide_eq_false h1
    have HB := Lib.hid (decide_eq_false (show ¬ (1 ≤ n ∧ n ≤ 32) from fun h => h1 h.1))
    go_enter Try.func76, Try.ntmps76
    go_wp2
    go_ret
    exact ⟨by first | rfl | (rw [HB.out]; rfl), rfl⟩
theorem lt_ge {x : Nat} (h : fin .f32 x = true) : ((FloatKind.format .f32).order x 0 == some Ordering.lt) = !geB x := by
  have hn := order_fin h (y := 0) (by decide +kernel)
  unfold geB
  cases ho : (FloatKind.format .f32).order x 0 with
  | none => exact absurd ho hn
  | some o => cases o <;> rfl
theorem le_pos {x : Nat} (h : fin .f32 x = true) : ((FloatKind.format .f32).order x 0 == some Ordering.lt || (FloatKind.format .f32).order x 0 == some Ordering.eq) = !posB x := by
  have hn := order_fin h (y := 0) (by decide +kernel)
  unfold posB
  cases ho : (FloatKind.format .f32).order x 0 with
  | none => exact absurd ho hn
  | some o => cases o <;> rfl
end Go.Proofs.Ythlpmbddpenpmaa
