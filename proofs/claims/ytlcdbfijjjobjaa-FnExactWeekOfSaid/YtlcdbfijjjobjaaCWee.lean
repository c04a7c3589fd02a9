/-
  Weeks, in both packages.
-/
import Derived.Test.YtlcdbfijjjobjaaCTol
namespace Go.Proofs.Ytlcdbfijjjobjaa
open Go.RowKit
set_option linter.unusedVariables false

def thuZ (n : Int) : Int := n - wdZ n + 3
def weekB (n : Int) : Bool := dayB n && dayB (thuZ n)
def WeekE (y k : Int) (ok : Bool) : Ending := .returned (.tuple #[.int .i64 y, .int .i64 k, .bool ok])
/-- What is returned is the week of the day. -/
def Weeked (n : Int) (w : World) (e : Ending) (w' : World) : Prop := ∃ y m d : Int, e = WeekE y ((thuZ n - firstZ y) / 7 + 1) true ∧ okZ y m d = true ∧ numZ y m d = thuZ n ∧ Below w.heap.size w w'
theorem okZ_first {y m d n : Int} (h : okZ y m d = true) (hn : numZ y m d = n) : 1900 ≤ y ∧ y ≤ 2199 ∧ firstZ y ≤ n ∧ n ≤ firstZ y + 400 := by
  have a := numZ_bd h
  have b := okZ_t h
  have c := longZ_bd y
  rw [firstZ_succ] at a
  omega
theorem specWeek_yes (n : Int) (w : World) (h : weekB n = true) : Calls Try.prog 25 #[.int .i64 n] w (Weeked n w) := by
  unfold weekB at h
  have hd := (Bool.and_eq_true _ _ ▸ h).1
  have ht := (Bool.and_eq_true _ _ ▸ h).2
  obtain ⟨h1, h2⟩ := dayB_t hd
  obtain ⟨h3, h4⟩ := dayB_t ht
  have HD := Lib.hid hd
  have HT := Lib.hid ht
  have b := wdZ_bd n
  have HE := Lib.hid (show n - wdZ n + 3 = thuZ n from rfl)
  clear h hd ht
  go_enter Try.func25, Try.ntmps25
  go_wp2_with fail
  refine (specIsDay_any _ _).mono ?_
  rw [HD.out]
  rintro e w' ⟨rfl, rfl⟩
  go_wp2_with fail
  refine (specWd_any _ _ (by omega) (by omega)).mono ?_
  rintro e w' ⟨rfl, rfl⟩
  go_wp2_with fail
  rw [HE.out]
  refine (specIsDay_any _ _).mono ?_
  rw [HT.out]
  rintro e w' ⟨rfl, rfl⟩
  go_wp2_with fail
  refine (specTold_any _ _ h3 h4).mono ?_
  rintro e w' ⟨y, m, d, rfl, hok, hn, hb⟩
  obtain ⟨g1, g2, g3, g4⟩ := okZ_first hok hn
  have b5 := firstZ_small y (by omega) (by omega)
  have hok := Lib.hid hok
  have hn := Lib.hid hn
  unfold Told
  go_wp2_with (go_at_call 55; refine (specFirst_any _ _ (by omega) (by omega)).mono ?_; rintro e w' ⟨rfl, rfl⟩)
  go_ret3
  exact ⟨y, m, d, rfl, hok.out, hn.out, hb⟩
theorem specWeek_no (n : Int) (w : World) (h : weekB n = false) : Calls Try.prog 25 #[.int .i64 n] w fun e w' => e = WeekE 0 0 false ∧ w = w' := by
  unfold weekB at h
  cases hd : dayB n
  · have HD := Lib.hid hd
    clear h hd
    go_enter Try.func25, Try.ntmps25
    go_wp2_with (go_at_call 51; refine (specIsDay_any _ _).mono ?_; rw [HD.out]; rintro e w' ⟨rfl, rfl⟩)
    go_ret3
    exact ⟨rfl, rfl⟩
  · have HT := Lib.hid (show dayB (thuZ n) = false by rw [hd] at h; exact h)
    obtain ⟨h1, h2⟩ := dayB_t hd
    have HD := Lib.hid hd
    have b := wdZ_bd n
    have HE := Lib.hid (show n - wdZ n + 3 = thuZ n from rfl)
    clear h hd
    go_enter Try.func25, Try.ntmps25
    go_wp2_with fail
    refine (specIsDay_any _ _).mono ?_
    rw [HD.out]
    rintro e w' ⟨rfl, rfl⟩
    go_wp2_with fail
    refine (specWd_any _ _ (by omega) (by omega)).mono ?_
    rintro e w' ⟨rfl, rfl⟩
    go_wp2_with fail
    rw [HE.out]
    refine (specIsDay_any _ _).mono ?_
    rw [HT.out]
    rintro e w' ⟨rfl, rfl⟩
    go_wp2
    go_ret3
    exact ⟨rfl, rfl⟩
theorem implWeek_yes (n : Int) (w : World) (h : weekB n = true) : Calls Try.prog 26 #[.int .i64 n] w (Weeked n w) := by
  unfold weekB at h
  have hd := (Bool.and_eq_true _ _ ▸ h).1
  have ht := (Bool.and_eq_true _ _ ▸ h).2
  obtain ⟨h1, h2⟩ := dayB_t hd
  have HD := Lib.hid hd
  have HT := Lib.hid ht
  have HW := Lib.hid (show wdR n = wdZ n by unfold wdR; rw [hd]; rfl)
  have b := wdZ_bd n
  have HE := Lib.hid (show n - wdZ n + 3 = thuZ n from rfl)
  clear h hd ht
  go_enter Try.func26, Try.ntmps26
  go_wp2_with fail
  refine (implWeekday_any _ _).mono ?_
  rw [HD.out, HW.out]
  unfold RetI
  rintro e w' ⟨rfl, rfl⟩
  go_wp2_with fail
  rw [HE.out]
  refine (implDateOf_yes _ _ HT.out).mono ?_
  unfold DateE
  rintro e w' ⟨y, m, d, rfl, hok, hn, hb⟩
  obtain ⟨g1, g2, g3, g4⟩ := okZ_first hok hn
  have b5 := firstZ_small y (by omega) (by omega)
  have hok := Lib.hid hok
  have hn := Lib.hid hn
  go_wp2_with (go_at_call 50; refine (implStart_any _ _ (by omega) (by omega)).mono ?_; rintro e w' ⟨rfl, rfl⟩)
  go_ret3
  exact ⟨y, m, d, rfl, hok.out, hn.out, hb⟩
theorem implWeek_no (n : Int) (w : World) (h : weekB n = false) : Calls Try.prog 26 #[.int .i64 n] w fun e w' => e = WeekE 0 0 false ∧ w = w' := by
  unfold weekB at h
  cases hd : dayB n
  · have HD := Lib.hid hd
    clear h hd
    go_enter Try.func26, Try.ntmps26
    go_wp2_with (go_at_call 24; refine (implWeekday_any _ _).mono ?_; rw [HD.out]; unfold RetI; rintro e w' ⟨rfl, rfl⟩)
    go_ret3
    exact ⟨rfl, rfl⟩
  · have HT := Lib.hid (show dayB (thuZ n) = false by rw [hd] at h; exact h)
    obtain ⟨h1, h2⟩ := dayB_t hd
    have HD := Lib.hid hd
    have HW := Lib.hid (show wdR n = wdZ n by unfold wdR; rw [hd]; rfl)
    have b := wdZ_bd n
    have HE := Lib.hid (show n - wdZ n + 3 = thuZ n from rfl)
    clear h hd
    go_enter Try.func26, Try.ntmps26
    go_wp2_with fail
    refine (implWeekday_any _ _).mono ?_
    rw [HD.out, HW.out]
    unfold RetI
    rintro e w' ⟨rfl, rfl⟩
    go_wp2_with fail
    rw [HE.out]
    refine (implDateOf_no _ _ HT.out).mono ?_
    unfold DateE
    rintro e w' ⟨rfl, rfl⟩
    go_wp2
    go_ret3
    exact ⟨rfl, rfl⟩
end Go.Proofs.Ytlcdbfijjjobjaa
