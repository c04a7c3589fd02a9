/-
  DayOf of the program; days, dates and weekdays in both packages.
-/
import Derived.Test.YtdjlakjjgkhlmaaCDay
namespace Go.Proofs.Ytdjlakjjgkhlmaa
open Go.RowKit
set_option linter.unusedVariables false

theorem first_ends : firstZ 1900 = -36524 ∧ firstZ 2200 = 73049 := by decide
theorem specIsDay_any (n : Int) (w : World) : Calls Try.prog 116 #[.int .i64 n] w fun e w' => e = .returned (.bool (dayB n)) ∧ w = w' := by
  have H := Lib.hid (show dayB n = decide (-36524 ≤ n ∧ n ≤ 73048) from rfl)
  have E1 := Lib.hid first_ends.1
  have E2 := Lib.hid first_ends.2
  rcases (show (n < -36524) ∨ (-36524 ≤ n ∧ n ≤ 73048) ∨ (73048 < n) by omega) with g1 | ⟨g1, g2⟩ | g1
  all_goals
    go_enter Try.func116, Try.ntmps116
    go_wp2_with (first | (go_at_call 97; go_in) | (go_at_call 145; refine (specFirst_any _ _ (by omega) (by omega)).mono ?_; (first | rw [E1.out] | rw [E2.out]); rintro e w' ⟨rfl, rfl⟩))
    go_ret
    exact ⟨congrArg (fun b => Ending.returned (Value.bool b)) (by rw [H.out]; first | exact (decide_eq_true (by omega)).symm | exact (decide_eq_false (by omega)).symm | exact decide_eq_decide.2 (by omega)), rfl⟩
theorem implIsDay_any (n : Int) (w : World) : Calls Try.prog 75 #[.int .i64 n] w fun e w' => e = .returned (.bool (dayB n)) ∧ w = w' := by
  have H := Lib.hid (show dayB n = decide (-36524 ≤ n ∧ n ≤ 73048) from rfl)
  rcases (show (n < -36524) ∨ (-36524 ≤ n ∧ n ≤ 73048) ∨ (73048 < n) by omega) with g1 | ⟨g1, g2⟩ | g1
  all_goals
    go_enter Try.func75, Try.ntmps75
    go_wp2
    go_ret
    exact ⟨congrArg (fun b => Ending.returned (Value.bool b)) (by rw [H.out]; first | exact (decide_eq_true (by omega)).symm | exact (decide_eq_false (by omega)).symm | exact decide_eq_decide.2 (by omega)), rfl⟩

theorem dayB_t {n : Int} (h : dayB n = true) : -36524 ≤ n ∧ n ≤ 73048 := of_decide_eq_true h
theorem dayB_f {n : Int} (h : dayB n = false) : ¬ (-36524 ≤ n ∧ n ≤ 73048) := of_decide_eq_false h
theorem wd_tmod (n : Int) (h1 : -100000 ≤ n) (h2 : n ≤ 100000) : ((n + 5).tmod 7 + 7) % 7 = wdZ n := by
  unfold wdZ
  rcases Int.lt_or_le (n + 5) 0 with h | h
  · have e : (n + 5).tmod 7 = - ((-(n + 5)) % 7) := by
      rw [← Int.tmod_eq_emod_of_nonneg (by omega), Int.neg_tmod, Int.neg_neg]
    rw [e]; omega
  · rw [Int.tmod_eq_emod_of_nonneg h]; omega
def wdR (n : Int) : Int := if dayB n then wdZ n else 0
end Go.Proofs.Ytdjlakjjgkhlmaa
