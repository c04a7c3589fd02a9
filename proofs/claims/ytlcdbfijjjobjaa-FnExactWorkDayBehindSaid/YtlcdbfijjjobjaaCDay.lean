/-
  Days, dates and weekdays, in both packages.
-/
import Derived.Test.YtlcdbfijjjobjaaCFst
namespace Go.Proofs.Ytlcdbfijjjobjaa
open Go.RowKit
set_option linter.unusedVariables false

theorem yearB_t {y : Int} (h : yearB y = true) : 1900 ≤ y ∧ y ≤ 2199 := of_decide_eq_true h
theorem yearB_f {y : Int} (h : yearB y = false) : ¬ (1900 ≤ y ∧ y ≤ 2199) := of_decide_eq_false h
def monthB (y m : Int) : Bool := yearB y && decide (1 ≤ m ∧ m ≤ 12)
theorem monthB_t {y m : Int} (h : monthB y m = true) : 1900 ≤ y ∧ y ≤ 2199 ∧ 1 ≤ m ∧ m ≤ 12 := by
  unfold monthB yearB at h; simp at h; omega
def longR (y m : Int) : Int := if monthB y m then monZ y m else 0
def RetI (x : Int) (ok : Bool) : Ending := .returned (.tuple #[.int .i64 x, .bool ok])

theorem specLongOf_any (y m : Int) (w : World) :
    Calls Try.prog 17 #[.int .i64 y, .int .i64 m] w fun e w' => e = RetI (longR y m) (monthB y m) ∧ Below w.heap.size w w' := by
  cases hy : yearB y
  · have H := Lib.hid (show monthB y m = false by unfold monthB; rw [hy]; rfl)
    go_enter Try.func17, Try.ntmps17
    go_wp2_with (go_at_call 44; refine (specYear_any _ _).mono ?_; rintro e w' ⟨rfl, rfl⟩)
    go_ret2
    exact ⟨by unfold RetI longR; rw [H.out]; rfl, Below.refl _ _⟩
  · have h1 := yearB_t hy
    have HY := Lib.hid hy
    clear hy
    by_cases g1 : 1 ≤ m
    · by_cases g2 : m ≤ 12
      · have H := Lib.hid (show monthB y m = true by unfold monthB; rw [HY.out]; simp [g1, g2])
        go_enter Try.func17, Try.ntmps17
        go_wp2_with (first | (go_at_call 44; refine (specYear_any _ _).mono ?_; rw [HY.out]; rintro e w' ⟨rfl, rfl⟩) | (go_at_call 47; go_in) | (go_at_call 48; refine (specMonth_any _ _ _ (by omega) g1 g2).mono ?_; rintro e w' ⟨rfl, hb⟩))
        go_ret2
        exact ⟨by unfold RetI longR; rw [H.out]; rfl, hb⟩
      · have H := Lib.hid (show monthB y m = false by unfold monthB; rw [HY.out]; simp [g2])
        have hd : decide (m ≤ 12) = false := decide_eq_false g2
        go_enter Try.func17, Try.ntmps17
        go_wp2_with (first | (go_at_call 44; refine (specYear_any _ _).mono ?_; rw [HY.out]; rintro e w' ⟨rfl, rfl⟩) | (go_at_call 47; go_in))
        go_ret2
        exact ⟨by unfold RetI longR; rw [H.out]; rfl, Below.refl _ _⟩
    · have H := Lib.hid (show monthB y m = false by unfold monthB; rw [HY.out]; simp [g1])
      have hd : decide (1 ≤ m) = false := decide_eq_false g1
      go_enter Try.func17, Try.ntmps17
      go_wp2_with (first | (go_at_call 44; refine (specYear_any _ _).mono ?_; rw [HY.out]; rintro e w' ⟨rfl, rfl⟩) | (go_at_call 47; go_in))
      go_ret2
      exact ⟨by unfold RetI longR; rw [H.out]; rfl, Below.refl _ _⟩

set_option maxHeartbeats 4000000 in
theorem implLongOf_any (y m : Int) (w : World) :
    Calls Try.prog 18 #[.int .i64 y, .int .i64 m] w fun e w' => e = RetI (longR y m) (monthB y m) ∧ w = w' := by
  by_cases hy1 : 1900 ≤ y
  · by_cases hy2 : y ≤ 2199
    · by_cases g1 : 1 ≤ m
      · by_cases g2 : m ≤ 12
        · have hm := m12 g1 g2
          have hB : monthB y m = true := by unfold monthB yearB; simp [g1, g2, hy1, hy2]
          cases hL : leapB y <;> rcases hm with rfl | rfl | rfl | rfl | rfl | rfl | rfl | rfl | rfl | rfl | rfl | rfl
          all_goals
            have H := Lib.hid hB
            have HL := Lib.hid (show leapZ y = leapB y by unfold leapB yearB; simp [hy1, hy2])
            have HK := Lib.hid hL
            clear hL hB g1 g2
            go_enter Try.func18, Try.ntmps18
            go_wp2_with (first | (go_at_call 46; go_in) | (go_at_call 16; refine (implIsLeap_any _ _).mono ?_; rw [HK.out]; rintro e w' ⟨rfl, rfl⟩))
            go_ret2
            exact ⟨by unfold RetI longR; rw [H.out]; simp [monZ, HL.out, HK.out], rfl⟩
        · have H := Lib.hid (show monthB y m = false by unfold monthB yearB; simp [g2])
          go_enter Try.func18, Try.ntmps18
          go_wp2_with (go_at_call 46; go_in)
          go_ret2
          exact ⟨by unfold RetI longR; rw [H.out]; rfl, rfl⟩
      · have H := Lib.hid (show monthB y m = false by unfold monthB yearB; simp [g1])
        go_enter Try.func18, Try.ntmps18
        go_wp2_with (go_at_call 46; go_in)
        go_ret2
        exact ⟨by unfold RetI longR; rw [H.out]; rfl, rfl⟩
    · have H := Lib.hid (show monthB y m = false by unfold monthB yearB; simp [hy2])
      go_enter Try.func18, Try.ntmps18
      go_wp2_with (go_at_call 46; go_in)
      go_ret2
      exact ⟨by unfold RetI longR; rw [H.out]; rfl, rfl⟩
  · have H := Lib.hid (show monthB y m = false by unfold monthB yearB; simp [hy1])
    go_enter Try.func18, Try.ntmps18
    go_wp2_with (go_at_call 46; go_in)
    go_ret2
    exact ⟨by unfold RetI longR; rw [H.out]; rfl, rfl⟩

def dayR (y m d : Int) : Int := if okZ y m d then numZ y m d else 0
theorem okZ_month {y m d : Int} (h : monthB y m = false) : okZ y m d = false := by
  unfold okZ; unfold monthB yearB at h; simp at h; exact decide_eq_false (by omega)
theorem okZ_of {y m d : Int} (h : monthB y m = true) : okZ y m d = decide (1 ≤ d ∧ d ≤ monZ y m) := by
  have := monthB_t h
  unfold okZ; rw [decide_eq_decide]; omega
theorem specDayOf_any (y m d : Int) (w : World) :
    Calls Try.prog 19 #[.int .i64 y, .int .i64 m, .int .i64 d] w fun e w' => e = RetI (dayR y m d) (okZ y m d) ∧ Below w.heap.size w w' := by
  by_cases hM : monthB y m = true
  · obtain ⟨h1, h2, h3, h4⟩ := monthB_t hM
    obtain ⟨b1, b2⟩ := monZ_bd y m
    have HY := Lib.hid (show yearB y = true from decide_eq_true ⟨h1, h2⟩)
    have HO := Lib.hid (okZ_of (d := d) hM)
    clear hM
    by_cases g1 : 1 ≤ d
    · by_cases g2 : d ≤ monZ y m
      · have H := Lib.hid (show okZ y m d = true by rw [HO.out]; simp [g1, g2])
        go_enter Try.func19, Try.ntmps19
        go_wp2_with (first | (go_at_call 44; refine (specYear_any _ _).mono ?_; rw [HY.out]; rintro e w' ⟨rfl, rfl⟩) | (go_at_call 47; go_in) | (go_at_call 48; refine (specMonth_any _ _ _ (by omega) h3 h4).mono ?_; rintro e w1 ⟨rfl, hb1⟩) | (go_at_call 49; refine (specDate_any _ _ _ _ h1 h2 h3 h4 g1 (by omega)).mono ?_; rintro e w2 ⟨rfl, hb2⟩))
        go_ret2
        exact ⟨by unfold RetI dayR; rw [H.out]; rfl, hb1.trans (hb2.mono hb1.size)⟩
      · have H := Lib.hid (show okZ y m d = false by rw [HO.out]; simp [g2])
        have hd : decide (d ≤ monZ y m) = false := decide_eq_false g2
        go_enter Try.func19, Try.ntmps19
        go_wp2_with (first | (go_at_call 44; refine (specYear_any _ _).mono ?_; rw [HY.out]; rintro e w' ⟨rfl, rfl⟩) | (go_at_call 47; go_in) | (go_at_call 48; refine (specMonth_any _ _ _ (by omega) h3 h4).mono ?_; rintro e w1 ⟨rfl, hb1⟩))
        go_ret2
        exact ⟨by unfold RetI dayR; rw [H.out]; rfl, hb1⟩
    · have H := Lib.hid (show okZ y m d = false by rw [HO.out]; simp [g1])
      have hd : decide (1 ≤ d) = false := decide_eq_false g1
      go_enter Try.func19, Try.ntmps19
      go_wp2_with (first | (go_at_call 44; refine (specYear_any _ _).mono ?_; rw [HY.out]; rintro e w' ⟨rfl, rfl⟩) | (go_at_call 47; go_in) | (go_at_call 48; refine (specMonth_any _ _ _ (by omega) h3 h4).mono ?_; rintro e w1 ⟨rfl, hb1⟩))
      go_ret2
      exact ⟨by unfold RetI dayR; rw [H.out]; rfl, hb1⟩
  · have hF : monthB y m = false := by simpa using hM
    have H := Lib.hid (okZ_month (d := d) hF)
    cases hy : yearB y
    · clear hM hF
      go_enter Try.func19, Try.ntmps19
      go_wp2_with (first | (go_at_call 44; refine (specYear_any _ _).mono ?_; rintro e w' ⟨rfl, rfl⟩))
      go_ret2
      exact ⟨by unfold RetI dayR; rw [H.out]; rfl, Below.refl _ _⟩
    · have hm : ¬ (1 ≤ m ∧ m ≤ 12) := by intro hh; unfold monthB at hF; rw [hy] at hF; simp [hh] at hF
      clear hM hF
      by_cases g1 : 1 ≤ m
      · have g2 : ¬ m ≤ 12 := fun hh => hm ⟨g1, hh⟩
        have hd : decide (m ≤ 12) = false := decide_eq_false g2
        clear hm
        go_enter Try.func19, Try.ntmps19
        go_wp2_with (first | (go_at_call 44; refine (specYear_any _ _).mono ?_; rintro e w' ⟨rfl, rfl⟩) | (go_at_call 47; go_in))
        go_ret2
        exact ⟨by unfold RetI dayR; rw [H.out]; rfl, Below.refl _ _⟩
      · have hd : decide (1 ≤ m) = false := decide_eq_false g1
        clear hm
        go_enter Try.func19, Try.ntmps19
        go_wp2_with (first | (go_at_call 44; refine (specYear_any _ _).mono ?_; rintro e w' ⟨rfl, rfl⟩) | (go_at_call 47; go_in))
        go_ret2
        exact ⟨by unfold RetI dayR; rw [H.out]; rfl, Below.refl _ _⟩
end Go.Proofs.Ytlcdbfijjjobjaa
