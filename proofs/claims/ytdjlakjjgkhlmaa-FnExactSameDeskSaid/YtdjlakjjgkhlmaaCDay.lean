/-
  Days, dates and weekdays, in both packages.
-/
import Derived.Test.YtdjlakjjgkhlmaaCFst
namespace Go.Proofs.Ytdjlakjjgkhlmaa
open Go.RowKit
set_option linter.unusedVariables false

theorem yearB_t {y : Int} (h : yearB y = true) : 1900 ≤ y ∧ y ≤ 2199 := of_decide_eq_true h
theorem yearB_f {y : Int} (h : yearB y = false) : ¬ (1900 ≤ y ∧ y ≤ 2199) := of_decide_eq_false h
def monthB (y m : Int) : Bool := yearB y && decide (1 ≤ m ∧ m ≤ 12)
theorem monthB_t {y m : Int} (h : monthB y m = true) : 1900 ≤ y ∧ y ≤ 2199 ∧ 1 ≤ m ∧ m ≤ 12 := by
  unfold monthB yearB at h; simp at h; omega
def longR (y m : Int) : Int := if monthB y m then monZ y m else 0
def RetI (x : Int) (ok : Bool) : Ending := .returned (.tuple #[.int .i64 x, .bool ok])

def dayR (y m d : Int) : Int := if okZ y m d then numZ y m d else 0
theorem okZ_month {y m d : Int} (h : monthB y m = false) : okZ y m d = false := by
  unfold okZ; unfold monthB yearB at h; simp at h; exact decide_eq_false (by omega)
theorem okZ_of {y m d : Int} (h : monthB y m = true) : okZ y m d = decide (1 ≤ d ∧ d ≤ monZ y m) := by
  have := monthB_t h
  unfold okZ; rw [decide_eq_decide]; omega
end Go.Proofs.Ytdjlakjjgkhlmaa
