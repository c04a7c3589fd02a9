/-
  First days of years, and numbers of dates, in both packages.
-/
import Derived.Test.YtdjlakjjgkhlmaaCLea
namespace Go.Proofs.Ytdjlakjjgkhlmaa
open Go.RowKit
set_option linter.unusedVariables false

theorem specLong_any (y : Int) (w : World) (h : 0 ≤ y) : Calls Try.prog 154 #[.int .i64 y] w fun e w' => e = .returned (.int .i64 (longZ y)) ∧ w = w' := by
  cases hL : leapZ y
  all_goals
    have H := Lib.hid (show longZ y = _ by unfold longZ; rw [hL])
    go_enter Try.func154, Try.ntmps154
    go_wp2_with (go_at_call 164; refine (specLeap_any _ _ h).mono ?_; rintro e w' ⟨rfl, rfl⟩)
    go_ret
    exact ⟨congrArg (fun b => Ending.returned (Value.int .i64 b)) H.out.symm, rfl⟩

theorem firstZ_small (y : Int) (h1 : 1900 ≤ y) (h2 : y ≤ 2200) : -40000 ≤ firstZ y ∧ firstZ y ≤ 80000 := by unfold firstZ; omega
theorem specFirst_any (y : Int) (w : World) (h1 : 1900 ≤ y) (h2 : y ≤ 2200) : Calls Try.prog 145 #[.int .i64 y] w fun e w' => e = .returned (.int .i64 (firstZ y)) ∧ w = w' := by
  by_cases hy : 2000 ≤ y
  · go_enter Try.func145, Try.ntmps145
    go_wp2
    go_loop [3, 4] (fun n i => ∃ k : Int, 2000 ≤ k ∧ k ≤ y ∧ i = .int .i64 k ∧ n = .int .i64 (firstZ k)) (fun _ i => (y - intOf i).toNat)
    case atStart => exact ⟨2000, by omega, by omega, rfl, by rw [firstZ_2000]⟩
    case round =>
      obtain ⟨k, hk1, hk2, rfl, rfl⟩ := hrel
      by_cases hlt : k < y
      · have hs := Lib.hid (firstZ_succ k)
        obtain ⟨b1, b2⟩ := firstZ_small k (by omega) (by omega)
        obtain ⟨b3, b4⟩ := longZ_bd k
        go_wp2_with (go_at_call 154; refine (specLong_any _ _ (by omega)).mono ?_; rintro e w' ⟨rfl, rfl⟩)
        go_round
        case rel => exact ⟨k + 1, by omega, by omega, rfl, by rw [hs.out]⟩
        case measure => simp [intOf]; omega
      · obtain rfl : k = y := by omega
        go_wp2
        go_loop [3, 5] (fun n i => n = .int .i64 (firstZ k) ∧ i = .int .i64 k) (fun _ i => 0)
        case atStart => exact ⟨rfl, rfl⟩
        case round =>
          obtain ⟨rfl, rfl⟩ := hrel
          go_wp2
          go_ret
          exact ⟨rfl, rfl⟩
  · go_enter Try.func145, Try.ntmps145
    go_wp2
    go_loop [3, 4] (fun n i => n = .int .i64 0 ∧ i = .int .i64 2000) (fun _ i => 0)
    case atStart => exact ⟨rfl, rfl⟩
    case round =>
      obtain ⟨rfl, rfl⟩ := hrel
      go_wp2
      go_loop [3, 5] (fun n i => ∃ k : Int, y ≤ k ∧ k ≤ 2000 ∧ i = .int .i64 k ∧ n = .int .i64 (firstZ y - firstZ k)) (fun _ i => (2000 - intOf i).toNat)
      case atStart => exact ⟨y, by omega, by omega, rfl, by rw [Int.sub_self]⟩
      case round =>
        obtain ⟨k, hk1, hk2, rfl, rfl⟩ := hrel
        obtain ⟨b1, b2⟩ := firstZ_small k (by omega) (by omega)
        obtain ⟨b5, b6⟩ := firstZ_small y (by omega) (by omega)
        by_cases hlt : k < 2000
        · have hs := Lib.hid (firstZ_succ k)
          obtain ⟨b3, b4⟩ := longZ_bd k
          go_wp2_with (go_at_call 154; refine (specLong_any _ _ (by omega)).mono ?_; rintro e w' ⟨rfl, rfl⟩)
          go_round
          case rel => exact ⟨k + 1, by omega, by omega, rfl, by rw [hs.out, Int.sub_sub]⟩
          case measure => simp [intOf]; omega
        · obtain rfl : k = 2000 := by omega
          have hs := Lib.hid (show firstZ y = firstZ y - firstZ 2000 by rw [firstZ_2000]; omega)
          go_wp2
          go_ret
          exact ⟨congrArg (fun b => Ending.returned (Value.int .i64 b)) hs.out.symm, rfl⟩

end Go.Proofs.Ytdjlakjjgkhlmaa
