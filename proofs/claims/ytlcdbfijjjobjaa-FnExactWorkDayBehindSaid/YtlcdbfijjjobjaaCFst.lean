/-
  First days of years, and numbers of dates, in both packages.
-/
import Derived.Test.YtlcdbfijjjobjaaCLea
namespace Go.Proofs.Ytlcdbfijjjobjaa
open Go.RowKit
set_option linter.unusedVariables false

theorem specLong_any (y : Int) (w : World) (h : 0 ≤ y) : Calls Try.prog 68 #[.int .i64 y] w fun e w' => e = .returned (.int .i64 (longZ y)) ∧ w = w' := by
  cases hL : leapZ y
  all_goals
    have H := Lib.hid (show longZ y = _ by unfold longZ; rw [hL])
    go_enter Try.func68, Try.ntmps68
    go_wp2_with (go_at_call 45; refine (specLeap_any _ _ h).mono ?_; rintro e w' ⟨rfl, rfl⟩)
    go_ret
    exact ⟨congrArg (fun b => Ending.returned (Value.int .i64 b)) H.out.symm, rfl⟩

theorem firstZ_small (y : Int) (h1 : 1900 ≤ y) (h2 : y ≤ 2200) : -40000 ≤ firstZ y ∧ firstZ y ≤ 80000 := by unfold firstZ; omega
theorem specFirst_any (y : Int) (w : World) (h1 : 1900 ≤ y) (h2 : y ≤ 2200) : Calls Try.prog 55 #[.int .i64 y] w fun e w' => e = .returned (.int .i64 (firstZ y)) ∧ w = w' := by
  by_cases hy : 2000 ≤ y
  · go_enter Try.func55, Try.ntmps55
    go_wp2
    go_loop [3, 4] (fun n i => ∃ k : Int, 2000 ≤ k ∧ k ≤ y ∧ i = .int .i64 k ∧ n = .int .i64 (firstZ k)) (fun _ i => (y - intOf i).toNat)
    case atStart => exact ⟨2000, by omega, by omega, rfl, by rw [firstZ_2000]⟩
    case round =>
      obtain ⟨k, hk1, hk2, rfl, rfl⟩ := hrel
      by_cases hlt : k < y
      · have hs := Lib.hid (firstZ_succ k)
        obtain ⟨b1, b2⟩ := firstZ_small k (by omega) (by omega)
        obtain ⟨b3, b4⟩ := longZ_bd k
        go_wp2_with (go_at_call 68; refine (specLong_any _ _ (by omega)).mono ?_; rintro e w' ⟨rfl, rfl⟩)
        go_round
        case rel => exact ⟨k + 1, by omega, by omega, rfl, by rw [hs.out]⟩
        case measure => simp [intOf]; omega
      · obtain rfl : k = y := by omega
        go_wp2
        go_loop [3, 5] (fun n i => n = .int .i64 (firstZ k) ∧ i = .int .i64 k) (fun _ i => 0)
        case atStart => exact ⟨rfl, rfl⟩
        case round =>
          obtain ⟨rfl, rfl⟩ := hrel
          go_wp2
          go_ret
          exact ⟨rfl, rfl⟩
  · go_enter Try.func55, Try.ntmps55
    go_wp2
    go_loop [3, 4] (fun n i => n = .int .i64 0 ∧ i = .int .i64 2000) (fun _ i => 0)
    case atStart => exact ⟨rfl, rfl⟩
    case round =>
      obtain ⟨rfl, rfl⟩ := hrel
      go_wp2
      go_loop [3, 5] (fun n i => ∃ k : Int, y ≤ k ∧ k ≤ 2000 ∧ i = .int .i64 k ∧ n = .int .i64 (firstZ y - firstZ k)) (fun _ i => (2000 - intOf i).toNat)
      case atStart => exact ⟨y, by omega, by omega, rfl, by rw [Int.sub_self]⟩
      case round =>
        obtain ⟨k, hk1, hk2, rfl, rfl⟩ := hrel
        obtain ⟨b1, b2⟩ := firstZ_small k (by omega) (by omega)
        obtain ⟨b5, b6⟩ := firstZ_small y (by omega) (by omega)
        by_cases hlt : k < 2000
        · have hs := Lib.hid (firstZ_succ k)
          obtain ⟨b3, b4⟩ := longZ_bd k
          go_wp2_with (go_at_call 68; refine (specLong_any _ _ (by omega)).mono ?_; rintro e w' ⟨rfl, rfl⟩)
          go_round
          case rel => exact ⟨k + 1, by omega, by omega, rfl, by rw [hs.out, Int.sub_sub]⟩
          case measure => simp [intOf]; omega
        · obtain rfl : k = 2000 := by omega
          have hs := Lib.hid (show firstZ y = firstZ y - firstZ 2000 by rw [firstZ_2000]; omega)
          go_wp2
          go_ret
          exact ⟨congrArg (fun b => Ending.returned (Value.int .i64 b)) hs.out.symm, rfl⟩

theorem implStart_any (y : Int) (w : World) (h1 : 1900 ≤ y) (h2 : y ≤ 2300) : Calls Try.prog 50 #[.int .i64 y] w fun e w' => e = .returned (.int .i64 (firstZ y)) ∧ w = w' := by
  have H := Lib.hid (show firstZ y = 365 * (y - 2000) + ((y - 1) / 4 - (y - 1) / 100 + (y - 1) / 400) - 485 + 1 from rfl)
  go_enter Try.func50, Try.ntmps50
  go_wp2
  go_ret
  exact ⟨congrArg (fun b => Ending.returned (Value.int .i64 b)) H.out.symm, rfl⟩

theorem specDate_any (y m d : Int) (w : World) (h1 : 1900 ≤ y) (h2 : y ≤ 2199) (h3 : 1 ≤ m) (h4 : m ≤ 12) (h5 : 1 ≤ d) (h6 : d ≤ 100) :
    Calls Try.prog 49 #[.int .i64 y, .int .i64 m, .int .i64 d] w fun e w' => e = .returned (.int .i64 (numZ y m d)) ∧ Below w.heap.size w w' := by
  obtain ⟨b1, b2⟩ := firstZ_small y (by omega) (by omega)
  go_enter Try.func49, Try.ntmps49
  go_wp2_with (go_at_call 55; refine (specFirst_any _ _ h1 (by omega)).mono ?_; rintro e w' ⟨rfl, rfl⟩)
  go_loopw [7, 8] (fun n i wr => ∃ k : Int, 1 ≤ k ∧ k ≤ m ∧ i = .int .i64 k ∧ n = .int .i64 (firstZ y + d - 1 + cumZ y k) ∧ Below w.heap.size w wr) (fun _ i _ => (m - intOf i).toNat)
  case atStart => exact ⟨1, by omega, by omega, rfl, by rw [cumZ_1, Int.add_zero], Below.refl _ _⟩
  case round =>
    rename_i wr
    obtain ⟨k, hk1, hk2, rfl, rfl, hb⟩ := hrel
    obtain ⟨b3, b4⟩ := cumZ_bd y k hk1 (by omega)
    by_cases hlt : k < m
    · have hs := Lib.hid (cumZ_succ y k hk1 (by omega))
      obtain ⟨b5, b6⟩ := monZ_bd y k
      go_wp2_with (go_at_call 48; refine (specMonth_any _ _ _ (by omega) (by omega) (by omega)).mono ?_; rintro e w' ⟨rfl, hb'⟩)
      go_roundw
      case rel => exact ⟨k + 1, by omega, by omega, rfl, by rw [hs.out, Int.add_assoc], hb.trans (hb'.mono hb.size)⟩
      case measure => simp [intOf]; omega
    · obtain rfl : k = m := by omega
      have hs := Lib.hid (show numZ y k d = firstZ y + d - 1 + cumZ y k by unfold numZ; omega)
      go_wp2
      go_ret
      exact ⟨congrArg (fun b => Ending.returned (Value.int .i64 b)) hs.out.symm, hb⟩
end Go.Proofs.Ytlcdbfijjjobjaa
