/-
  DayOf of the program; days, dates and weekdays in both packages.
-/
import Derived.Test.YtlcdbfijjjobjaaCDay
namespace Go.Proofs.Ytlcdbfijjjobjaa
open Go.RowKit
set_option linter.unusedVariables false

theorem implDayOf_any (y m d : Int) (w : World) :
    Calls Try.prog 20 #[.int .i64 y, .int .i64 m, .int .i64 d] w fun e w' => e = RetI (dayR y m d) (okZ y m d) ∧ w = w' := by
  cases hM : monthB y m
  · have HM := Lib.hid hM
    have H := Lib.hid (okZ_month (d := d) hM)
    clear hM
    go_enter Try.func20, Try.ntmps20
    go_wp2_with (go_at_call 18; refine (implLongOf_any _ _ _).mono ?_; rw [HM.out]; unfold RetI; rintro e w' ⟨rfl, rfl⟩)
    go_ret2
    exact ⟨by unfold RetI dayR; rw [H.out]; rfl, rfl⟩
  · obtain ⟨h1, h2, h3, h4⟩ := monthB_t hM
    obtain ⟨b1, b2⟩ := monZ_bd y m
    obtain ⟨b3, b4⟩ := firstZ_small y (by omega) (by omega)
    have HM := Lib.hid hM
    have HO := Lib.hid (okZ_of (d := d) hM)
    have HR := Lib.hid (show longR y m = monZ y m by unfold longR; rw [hM]; rfl)
    clear hM
    by_cases g1 : 1 ≤ d
    · by_cases g2 : d ≤ monZ y m
      · have H := Lib.hid (show okZ y m d = true by rw [HO.out]; simp [g1, g2])
        have hd1 : decide (d < 1) = false := decide_eq_false (by omega)
        have hd2 : decide (monZ y m < d) = false := decide_eq_false (by omega)
        go_enter Try.func20, Try.ntmps20
        go_wp2_with (first | (go_at_call 18; refine (implLongOf_any _ _ _).mono ?_; rw [HM.out, HR.out]; unfold RetI; rintro e w' ⟨rfl, rfl⟩) | (go_at_call 50; refine (implStart_any _ _ h1 (by omega)).mono ?_; rintro e w' ⟨rfl, rfl⟩))
        go_loop [10, 11] (fun n i => ∃ k : Int, 1 ≤ k ∧ k ≤ m ∧ i = .int .i64 k ∧ n = .int .i64 (firstZ y + d - 1 + cumZ y k)) (fun _ i => (m - intOf i).toNat)
        case atStart => exact ⟨1, by omega, by omega, rfl, by rw [cumZ_1, Int.add_zero]⟩
        case round =>
          obtain ⟨k, hk1, hk2, rfl, rfl⟩ := hrel
          obtain ⟨b5, b6⟩ := cumZ_bd y k hk1 (by omega)
          by_cases hlt : k < m
          · have hs := Lib.hid (cumZ_succ y k hk1 (by omega))
            obtain ⟨b7, b8⟩ := monZ_bd y k
            have HMk := Lib.hid (show monthB y k = true by unfold monthB yearB; simp; omega)
            have HRk := Lib.hid (show longR y k = monZ y k by unfold longR; rw [HMk.out]; rfl)
            go_wp2_with (go_at_call 18; refine (implLongOf_any _ _ _).mono ?_; rw [HMk.out, HRk.out]; unfold RetI; rintro e w' ⟨rfl, rfl⟩)
            go_round
            case rel => exact ⟨k + 1, by omega, by omega, rfl, by rw [hs.out, Int.add_assoc]⟩
            case measure => simp [intOf]; omega
          · obtain rfl : k = m := by omega
            have hs := Lib.hid (show numZ y k d = firstZ y + d - 1 + cumZ y k by unfold numZ; omega)
            go_wp2
            go_ret2
            exact ⟨by unfold RetI dayR; rw [H.out, if_pos rfl, hs.out]; rfl, rfl⟩
      · have H := Lib.hid (show okZ y m d = false by rw [HO.out]; simp [g2])
        have hd1 : decide (d < 1) = false := decide_eq_false (by omega)
        have hd2 : decide (monZ y m < d) = true := decide_eq_true (by omega)
        go_enter Try.func20, Try.ntmps20
        go_wp2_with (go_at_call 18; refine (implLongOf_any _ _ _).mono ?_; rw [HM.out, HR.out]; unfold RetI; rintro e w' ⟨rfl, rfl⟩)
        go_ret2
        exact ⟨by unfold RetI dayR; rw [H.out]; rfl, rfl⟩
    · have H := Lib.hid (show okZ y m d = false by rw [HO.out]; simp [g1])
      have hd1 : decide (d < 1) = true := decide_eq_true (by omega)
      go_enter Try.func20, Try.ntmps20
      go_wp2_with (go_at_call 18; refine (implLongOf_any _ _ _).mono ?_; rw [HM.out, HR.out]; unfold RetI; rintro e w' ⟨rfl, rfl⟩)
      go_ret2
      exact ⟨by unfold RetI dayR; rw [H.out]; rfl, rfl⟩

theorem first_ends : firstZ 1900 = -36524 ∧ firstZ 2200 = 73049 := by decide
theorem specIsDay_any (n : Int) (w : World) : Calls Try.prog 51 #[.int .i64 n] w fun e w' => e = .returned (.bool (dayB n)) ∧ w = w' := by
  have H := Lib.hid (show dayB n = decide (-36524 ≤ n ∧ n ≤ 73048) from rfl)
  have E1 := Lib.hid first_ends.1
  have E2 := Lib.hid first_ends.2
  rcases (show (n < -36524) ∨ (-36524 ≤ n ∧ n ≤ 73048) ∨ (73048 < n) by omega) with g1 | ⟨g1, g2⟩ | g1
  all_goals
    go_enter Try.func51, Try.ntmps51
    go_wp2_with (first | (go_at_call 47; go_in) | (go_at_call 55; refine (specFirst_any _ _ (by omega) (by omega)).mono ?_; (first | rw [E1.out] | rw [E2.out]); rintro e w' ⟨rfl, rfl⟩))
    go_ret
    exact ⟨congrArg (fun b => Ending.returned (Value.bool b)) (by rw [H.out]; first | exact (decide_eq_true (by omega)).symm | exact (decide_eq_false (by omega)).symm | exact decide_eq_decide.2 (by omega)), rfl⟩
theorem implIsDay_any (n : Int) (w : World) : Calls Try.prog 53 #[.int .i64 n] w fun e w' => e = .returned (.bool (dayB n)) ∧ w = w' := by
  have H := Lib.hid (show dayB n = decide (-36524 ≤ n ∧ n ≤ 73048) from rfl)
  rcases (show (n < -36524) ∨ (-36524 ≤ n ∧ n ≤ 73048) ∨ (73048 < n) by omega) with g1 | ⟨g1, g2⟩ | g1
  all_goals
    go_enter Try.func53, Try.ntmps53
    go_wp2
    go_ret
    exact ⟨congrArg (fun b => Ending.returned (Value.bool b)) (by rw [H.out]; first | exact (decide_eq_true (by omega)).symm | exact (decide_eq_false (by omega)).symm | exact decide_eq_decide.2 (by omega)), rfl⟩

theorem dayB_t {n : Int} (h : dayB n = true) : -36524 ≤ n ∧ n ≤ 73048 := of_decide_eq_true h
theorem dayB_f {n : Int} (h : dayB n = false) : ¬ (-36524 ≤ n ∧ n ≤ 73048) := of_decide_eq_false h
theorem wd_tmod (n : Int) (h1 : -100000 ≤ n) (h2 : n ≤ 100000) : ((n + 5).tmod 7 + 7) % 7 = wdZ n := by
  unfold wdZ
  rcases Int.lt_or_le (n + 5) 0 with h | h
  · have e : (n + 5).tmod 7 = - ((-(n + 5)) % 7) := by
      rw [← Int.tmod_eq_emod_of_nonneg (by omega), Int.neg_tmod, Int.neg_neg]
    rw [e]; omega
  · rw [Int.tmod_eq_emod_of_nonneg h]; omega
theorem specWd_any (n : Int) (w : World) (h1 : -100000 ≤ n) (h2 : n ≤ 100000) : Calls Try.prog 54 #[.int .i64 n] w fun e w' => e = .returned (.int .i64 (wdZ n)) ∧ w = w' := by
  have H := Lib.hid (wd_tmod n h1 h2)
  have b1 : -7 < (n + 5).tmod 7 := Int.lt_tmod_of_pos _ (by omega)
  have b2 : (n + 5).tmod 7 < 7 := Int.tmod_lt_of_pos _ (by omega)
  go_enter Try.func54, Try.ntmps54
  go_wp2
  go_ret
  exact ⟨congrArg (fun b => Ending.returned (Value.int .i64 b)) H.out, rfl⟩
def wdR (n : Int) : Int := if dayB n then wdZ n else 0
theorem specWeekday_any (n : Int) (w : World) : Calls Try.prog 23 #[.int .i64 n] w fun e w' => e = RetI (wdR n) (dayB n) ∧ w = w' := by
  cases hd : dayB n
  · have H := Lib.hid hd
    clear hd
    go_enter Try.func23, Try.ntmps23
    go_wp2_with (go_at_call 51; refine (specIsDay_any _ _).mono ?_; rw [H.out]; rintro e w' ⟨rfl, rfl⟩)
    go_ret2
    exact ⟨by unfold RetI wdR; rw [H.out]; rfl, rfl⟩
  · have H := Lib.hid hd
    obtain ⟨h1, h2⟩ := dayB_t hd
    clear hd
    go_enter Try.func23, Try.ntmps23
    go_wp2_with (first | (go_at_call 51; refine (specIsDay_any _ _).mono ?_; rw [H.out]; rintro e w' ⟨rfl, rfl⟩) | (go_at_call 54; refine (specWd_any _ _ (by omega) (by omega)).mono ?_; rintro e w' ⟨rfl, rfl⟩))
    go_ret2
    exact ⟨by unfold RetI wdR; rw [H.out]; rfl, rfl⟩
theorem implWeekday_any (n : Int) (w : World) : Calls Try.prog 24 #[.int .i64 n] w fun e w' => e = RetI (wdR n) (dayB n) ∧ w = w' := by
  cases hd : dayB n
  · have H := Lib.hid hd
    clear hd
    go_enter Try.func24, Try.ntmps24
    go_wp2_with (go_at_call 53; refine (implIsDay_any _ _).mono ?_; rw [H.out]; rintro e w' ⟨rfl, rfl⟩)
    go_ret2
    exact ⟨by unfold RetI wdR; rw [H.out]; rfl, rfl⟩
  · have H := Lib.hid hd
    obtain ⟨h1, h2⟩ := dayB_t hd
    have HW := Lib.hid (show wdZ n = (n + 36524) % 7 from rfl)
    clear hd
    go_enter Try.func24, Try.ntmps24
    go_wp2_with (go_at_call 53; refine (implIsDay_any _ _).mono ?_; rw [H.out]; rintro e w' ⟨rfl, rfl⟩)
    go_ret2
    exact ⟨by unfold RetI wdR; rw [H.out, if_pos rfl, HW.out]; rfl, rfl⟩
end Go.Proofs.Ytlcdbfijjjobjaa
