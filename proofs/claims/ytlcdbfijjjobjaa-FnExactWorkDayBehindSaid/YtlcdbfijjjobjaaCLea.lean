/-
  Leap years and how long months are, in both packages.
-/
import Derived.Test.YtlcdbfijjjobjaaChecked
import Derived.Test.YtlcdbfijjjobjaaDay
import Derived.WalkKit
import Derived.Lib.Hide
import Derived.Below
namespace Go.Proofs.Ytlcdbfijjjobjaa
open Go.RowKit
set_option linter.unusedVariables false

theorem specLeap_any (y : Int) (w : World) (h : 0 ≤ y) : Calls Try.prog 45 #[.int .i64 y] w fun e w' => e = .returned (.bool (leapZ y)) ∧ w = w' := by
  have H := Lib.hid (show leapZ y = decide (y % 4 = 0 ∧ ¬ y % 100 = 0 ∨ y % 400 = 0) from rfl)
  by_cases h4 : y % 4 = 0 <;> by_cases h1 : y % 100 = 0 <;> by_cases h5 : y % 400 = 0
  all_goals
    go_enter Try.func45, Try.ntmps45
    go_wp2
    go_ret
    exact ⟨congrArg (fun b => Ending.returned (Value.bool b)) (by rw [H.out]; first | exact (decide_eq_true (by omega)).symm | exact (decide_eq_false (by omega)).symm | exact (decide_eq_decide (p := y % 400 = 0)).2 (by omega)), rfl⟩

def leapB (y : Int) : Bool := yearB y && leapZ y
theorem implIsLeap_any (y : Int) (w : World) : Calls Try.prog 16 #[.int .i64 y] w fun e w' => e = .returned (.bool (leapB y)) ∧ w = w' := by
  have H := Lib.hid (show leapB y = decide ((1900 ≤ y ∧ y ≤ 2199) ∧ (y % 4 = 0 ∧ ¬ y % 100 = 0 ∨ y % 400 = 0)) by unfold leapB yearB leapZ; rw [← Bool.decide_and])
  by_cases g1 : 1900 ≤ y
  · by_cases g2 : y ≤ 2199
    · by_cases h4 : y % 4 = 0 <;> by_cases h1 : y % 100 = 0 <;> by_cases h5 : y % 400 = 0
      all_goals
        go_enter Try.func16, Try.ntmps16
        go_wp2_with (go_at_call 46; go_in)
        go_ret
        exact ⟨congrArg (fun b => Ending.returned (Value.bool b)) (by rw [H.out]; first | exact (decide_eq_true (by omega)).symm | exact (decide_eq_false (by omega)).symm | exact (decide_eq_decide (p := y % 400 = 0)).2 (by omega)), rfl⟩
    · go_enter Try.func16, Try.ntmps16
      go_wp2_with (go_at_call 46; go_in)
      go_ret
      exact ⟨congrArg (fun b => Ending.returned (Value.bool b)) (by rw [H.out]; first | exact (decide_eq_true (by omega)).symm | exact (decide_eq_false (by omega)).symm | exact (decide_eq_decide (p := y % 400 = 0)).2 (by omega)), rfl⟩
  · go_enter Try.func16, Try.ntmps16
    go_wp2_with (go_at_call 46; go_in)
    go_ret
    exact ⟨congrArg (fun b => Ending.returned (Value.bool b)) (by rw [H.out]; first | exact (decide_eq_true (by omega)).symm | exact (decide_eq_false (by omega)).symm | exact (decide_eq_decide (p := y % 400 = 0)).2 (by omega)), rfl⟩
theorem specYear_any (y : Int) (w : World) : Calls Try.prog 44 #[.int .i64 y] w fun e w' => e = .returned (.bool (yearB y)) ∧ w = w' := by
  have H := Lib.hid (show yearB y = decide (1900 ≤ y ∧ y ≤ 2199) from rfl)
  by_cases g1 : 1900 ≤ y <;> by_cases g2 : y ≤ 2199
  all_goals
    go_enter Try.func44, Try.ntmps44
    go_wp2_with (go_at_call 47; go_in)
    go_ret
    exact ⟨congrArg (fun b => Ending.returned (Value.bool b)) (by rw [H.out]; first | exact (decide_eq_true (by omega)).symm | exact (decide_eq_false (by omega)).symm | exact (decide_eq_decide (p := y % 400 = 0)).2 (by omega)), rfl⟩
theorem specIsLeap_any (y : Int) (w : World) : Calls Try.prog 15 #[.int .i64 y] w fun e w' => e = .returned (.bool (leapB y)) ∧ w = w' := by
  cases hy : yearB y
  · have H := Lib.hid (show leapB y = false by unfold leapB; rw [hy]; rfl)
    go_enter Try.func15, Try.ntmps15
    go_wp2_with (go_at_call 44; refine (specYear_any _ _).mono ?_; rintro e w' ⟨rfl, rfl⟩)
    go_ret
    exact ⟨congrArg (fun b => Ending.returned (Value.bool b)) H.out.symm, rfl⟩
  · have H := Lib.hid (show leapB y = leapZ y by unfold leapB; rw [hy]; rfl)
    have h1 := of_decide_eq_true hy
    go_enter Try.func15, Try.ntmps15
    go_wp2_with (first | (go_at_call 44; refine (specYear_any _ _).mono ?_; rintro e w' ⟨rfl, rfl⟩) | (go_at_call 45; refine (specLeap_any _ _ (by omega)).mono ?_; rintro e w' ⟨rfl, rfl⟩))
    go_ret
    exact ⟨congrArg (fun b => Ending.returned (Value.bool b)) H.out.symm, rfl⟩

set_option maxHeartbeats 4000000 in
theorem specMonth_any (y m : Int) (w : World) (h : 0 ≤ y) (h1 : 1 ≤ m) (h2 : m ≤ 12) :
    Calls Try.prog 48 #[.int .i64 y, .int .i64 m] w fun e w' => e = .returned (.int .i64 (monZ y m)) ∧ Below w.heap.size w w' := by
  have hm := m12 h1 h2
  clear h1 h2
  cases hL : leapZ y <;> rcases hm with rfl | rfl | rfl | rfl | rfl | rfl | rfl | rfl | rfl | rfl | rfl | rfl
  all_goals
    have H := Lib.hid hL
    go_enter Try.func48, Try.ntmps48
    go_wp2_with (go_at_call 45; refine (specLeap_any _ _ h).mono ?_; rintro e w' ⟨rfl, rfl⟩)
    go_ret
    exact ⟨by simp [monZ, H.out], by first | exact Below.refl _ _ | exact (Below.refl _ _).alloc (Nat.le_refl _) _⟩
end Go.Proofs.Ytlcdbfijjjobjaa
