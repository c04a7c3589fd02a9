/-
  Weekdays in months, in both packages.
-/
import Derived.Test.YtlcdbfijjjobjaaCDat
import Derived.Test.YtlcdbfijjjobjaaCIn
namespace Go.Proofs.Ytlcdbfijjjobjaa
open Go.RowKit
set_option linter.unusedVariables false

def wdiB0 (y m q c : Int) : Bool := monthB y m && decide (0 ≤ q ∧ q ≤ 6 ∧ 1 ≤ c ∧ c ≤ 5)
def wdiU (y m q c : Int) : Int := (q - wdZ (numZ y m 1)) % 7 + 7 * (c - 1)
def wdiB (y m q c : Int) : Bool := wdiB0 y m q c && decide (wdiU y m q c < monZ y m)
def wdiR (y m q c : Int) : Int := if wdiB y m q c then numZ y m 1 + wdiU y m q c else 0
theorem wdi_no {y m q c : Int} (h : wdiB y m q c = false) : wdiR y m q c = 0 := by unfold wdiR; rw [h]; rfl
theorem wdi0_no {y m q c : Int} (h : wdiB0 y m q c = false) : wdiB y m q c = false := by unfold wdiB; rw [h]; rfl
theorem okZ_1 {y m : Int} (h : monthB y m = true) : okZ y m 1 = true := by
  rw [okZ_of h]; have := monZ_bd y m; exact decide_eq_true (by omega)
theorem num1_bd {y m : Int} (h : monthB y m = true) : -36524 ≤ numZ y m 1 ∧ numZ y m 1 ≤ 73048 := dayB_t (numZ_day (okZ_1 h))
theorem wdiU_bd (y m q c : Int) (h3 : 1 ≤ c) (h4 : c ≤ 5) : 0 ≤ wdiU y m q c ∧ wdiU y m q c ≤ 34 := by unfold wdiU; omega

theorem specWdi_any (y m q c : Int) (w : World) :
    Calls Try.prog 29 #[.int .i64 y, .int .i64 m, .int .i64 q, .int .i64 c] w fun e w' => e = RetI (wdiR y m q c) (wdiB y m q c) ∧ Below w.heap.size w w' := by
  cases hy : yearB y
  · have HY := Lib.hid hy
    have HB := Lib.hid (show wdiB y m q c = false from wdi0_no (by unfold wdiB0 monthB; rw [hy]; rfl))
    clear hy
    go_enter Try.func29, Try.ntmps29
    go_wp2_with (go_at_call 44; refine (specYear_any _ _).mono ?_; rw [HY.out]; rintro e w' ⟨rfl, rfl⟩)
    go_ret2
    exact ⟨by unfold RetI; rw [HB.out, wdi_no HB.out]; rfl, Below.refl _ _⟩
  · have HY := Lib.hid hy
    obtain ⟨hy1, hy2⟩ := yearB_t hy
    by_cases h1 : 1 ≤ m ∧ m ≤ 12
    · have hM : monthB y m = true := by unfold monthB; rw [hy]; simp [h1]
      by_cases h2 : 0 ≤ q ∧ q ≤ 6
      · by_cases h3 : 1 ≤ c ∧ c ≤ 5
        · have H0 : wdiB0 y m q c = true := by unfold wdiB0; rw [hM]; simp; omega
          obtain ⟨b1, b2⟩ := num1_bd hM
          obtain ⟨b3, b4⟩ := wdiU_bd y m q c h3.1 h3.2
          obtain ⟨b5, b6⟩ := wdZ_bd (numZ y m 1)
          obtain ⟨b7, b8⟩ := monZ_bd y m
          have HU := Lib.hid (show (q - wdZ (numZ y m 1)) % 7 + 7 * (c - 1) = wdiU y m q c from rfl)
          have HB := Lib.hid (show wdiB y m q c = decide (wdiU y m q c < monZ y m) by unfold wdiB; rw [H0]; rfl)
          clear hM H0 hy
          obtain ⟨m1, m2⟩ := h1
          obtain ⟨q1, q2⟩ := h2
          obtain ⟨c1, c2⟩ := h3
          by_cases hd : wdiU y m q c < monZ y m
          · have HE := Lib.hid (HB.out.trans (decide_eq_true hd))
            have HR := Lib.hid (show wdiR y m q c = numZ y m 1 + wdiU y m q c by unfold wdiR; rw [HE.out]; rfl)
            go_enter Try.func29, Try.ntmps29
            go_wp2_with (first | (go_at_call 44; refine (specYear_any _ _).mono ?_; rw [HY.out]; rintro e w' ⟨rfl, rfl⟩) | (go_at_call 47; refine (in_yes _ _ _ _ (by omega) (by omega)).mono ?_; rintro e w' ⟨rfl, rfl⟩))
            refine (specDate_any _ _ _ _ hy1 hy2 m1 m2 (by omega) (by omega)).mono ?_
            rintro e w1 ⟨rfl, hb1⟩
            go_wp2_with fail
            refine (specWd_any _ _ (by omega) (by omega)).mono ?_
            rintro e w' ⟨rfl, rfl⟩
            go_wp2_with fail
            rw [HU.out]
            refine (specMonth_any _ _ _ (by omega) m1 m2).mono ?_
            rintro e w2 ⟨rfl, hb2⟩
            go_wp2
            go_ret2
            exact ⟨by unfold RetI; rw [HE.out, HR.out]; rfl, hb1.trans (hb2.mono hb1.size)⟩
          · have HE := Lib.hid (HB.out.trans (decide_eq_false hd))
            go_enter Try.func29, Try.ntmps29
            go_wp2_with (first | (go_at_call 44; refine (specYear_any _ _).mono ?_; rw [HY.out]; rintro e w' ⟨rfl, rfl⟩) | (go_at_call 47; refine (in_yes _ _ _ _ (by omega) (by omega)).mono ?_; rintro e w' ⟨rfl, rfl⟩))
            refine (specDate_any _ _ _ _ hy1 hy2 m1 m2 (by omega) (by omega)).mono ?_
            rintro e w1 ⟨rfl, hb1⟩
            go_wp2_with fail
            refine (specWd_any _ _ (by omega) (by omega)).mono ?_
            rintro e w' ⟨rfl, rfl⟩
            go_wp2_with fail
            rw [HU.out]
            refine (specMonth_any _ _ _ (by omega) m1 m2).mono ?_
            rintro e w2 ⟨rfl, hb2⟩
            go_wp2
            go_ret2
            exact ⟨by unfold RetI; rw [HE.out, wdi_no HE.out]; rfl, hb1.trans (hb2.mono hb1.size)⟩
        · have HB := Lib.hid (show wdiB y m q c = false from wdi0_no (by unfold wdiB0; simp; omega))
          have h3' : c < 1 ∨ 5 < c := by omega
          clear h3 hM hy
          go_enter Try.func29, Try.ntmps29
          go_wp2_with fail
          refine (specYear_any _ _).mono ?_
          rw [HY.out]
          rintro e w' ⟨rfl, rfl⟩
          go_wp2_with fail
          refine (in_yes _ _ _ _ h1.1 h1.2).mono ?_
          rintro e w' ⟨rfl, rfl⟩
          go_wp2_with fail
          refine (in_yes _ _ _ _ h2.1 h2.2).mono ?_
          rintro e w' ⟨rfl, rfl⟩
          go_wp2_with fail
          refine (in_no _ _ _ _ h3').mono ?_
          rintro e w' ⟨rfl, rfl⟩
          go_wp2
          go_ret2
          exact ⟨by unfold RetI; rw [HB.out, wdi_no HB.out]; rfl, Below.refl _ _⟩
      · have HB := Lib.hid (show wdiB y m q c = false from wdi0_no (by unfold wdiB0; simp; omega))
        have h2' : q < 0 ∨ 6 < q := by omega
        clear h2 hM hy
        go_enter Try.func29, Try.ntmps29
        go_wp2_with fail
        refine (specYear_any _ _).mono ?_
        rw [HY.out]
        rintro e w' ⟨rfl, rfl⟩
        go_wp2_with fail
        refine (in_yes _ _ _ _ h1.1 h1.2).mono ?_
        rintro e w' ⟨rfl, rfl⟩
        go_wp2_with fail
        refine (in_no _ _ _ _ h2').mono ?_
        rintro e w' ⟨rfl, rfl⟩
        go_wp2
        go_ret2
        exact ⟨by unfold RetI; rw [HB.out, wdi_no HB.out]; rfl, Below.refl _ _⟩
    · have HB := Lib.hid (show wdiB y m q c = false from wdi0_no (by unfold wdiB0 monthB; simp; omega))
      have h1' : m < 1 ∨ 12 < m := by omega
      clear h1 hy
      go_enter Try.func29, Try.ntmps29
      go_wp2_with fail
      refine (specYear_any _ _).mono ?_
      rw [HY.out]
      rintro e w' ⟨rfl, rfl⟩
      go_wp2_with fail
      refine (in_no _ _ _ _ h1').mono ?_
      rintro e w' ⟨rfl, rfl⟩
      go_wp2
      go_ret2
      exact ⟨by unfold RetI; rw [HB.out, wdi_no HB.out]; rfl, Below.refl _ _⟩

theorem implWdi_any (y m q c : Int) (w : World) :
    Calls Try.prog 30 #[.int .i64 y, .int .i64 m, .int .i64 q, .int .i64 c] w fun e w' => e = RetI (wdiR y m q c) (wdiB y m q c) ∧ w = w' := by
  cases hM : monthB y m
  · have HO := Lib.hid (okZ_month (d := 1) hM)
    have HB := Lib.hid (show wdiB y m q c = false from wdi0_no (by unfold wdiB0; rw [hM]; rfl))
    clear hM
    go_enter Try.func30, Try.ntmps30
    go_wp2_with (go_at_call 20; refine (implDayOf_any _ _ _ _).mono ?_; rw [HO.out]; unfold RetI; rintro e w' ⟨rfl, rfl⟩)
    go_ret2
    exact ⟨by unfold RetI; rw [HB.out, wdi_no HB.out]; rfl, rfl⟩
  · obtain ⟨hy1, hy2, m1, m2⟩ := monthB_t hM
    have HO := Lib.hid (okZ_1 hM)
    have HD := Lib.hid (show dayR y m 1 = numZ y m 1 by unfold dayR; rw [HO.out]; rfl)
    by_cases h2 : (0 ≤ q ∧ q ≤ 6) ∧ 1 ≤ c ∧ c ≤ 5
    · obtain ⟨⟨q1, q2⟩, c1, c2⟩ := h2
      have H0 : wdiB0 y m q c = true := by unfold wdiB0; rw [hM]; simp; omega
      obtain ⟨b1, b2⟩ := num1_bd hM
      obtain ⟨b3, b4⟩ := wdiU_bd y m q c c1 c2
      obtain ⟨b5, b6⟩ := wdZ_bd (numZ y m 1)
      have HU := Lib.hid (show 1 + (q - wdZ (numZ y m 1)) % 7 + 7 * (c - 1) = 1 + wdiU y m q c by unfold wdiU; omega)
      have HW := Lib.hid (show wdR (numZ y m 1) = wdZ (numZ y m 1) by unfold wdR; rw [numZ_day (okZ_1 hM)]; rfl)
      have HY := Lib.hid (numZ_day (okZ_1 hM))
      have HK := Lib.hid (show RetI (dayR y m (1 + wdiU y m q c)) (okZ y m (1 + wdiU y m q c)) = RetI (wdiR y m q c) (wdiB y m q c) by
        have e1 : okZ y m (1 + wdiU y m q c) = wdiB y m q c := by
          unfold wdiB; rw [H0, okZ_of hM, Bool.true_and, decide_eq_decide]; omega
        have e2 : dayR y m (1 + wdiU y m q c) = wdiR y m q c := by
          unfold dayR wdiR; rw [e1]; unfold numZ; congr 1; omega
        rw [e1, e2])
      clear hM H0
      go_enter Try.func30, Try.ntmps30
      go_wp2_with fail
      refine (implDayOf_any _ _ _ _).mono ?_
      rw [HO.out, HD.out]
      unfold RetI
      rintro e w' ⟨rfl, rfl⟩
      go_wp2_with fail
      refine (implWeekday_any _ _).mono ?_
      rw [HW.out, HY.out]
      unfold RetI
      rintro e w' ⟨rfl, rfl⟩
      go_wp2_with fail
      rw [HU.out]
      refine (implDayOf_any _ _ _ _).mono ?_
      rintro e w' ⟨rfl, rfl⟩
      unfold RetI
      go_wp2
      go_ret2
      exact ⟨HK.out, rfl⟩
    · have HB := Lib.hid (show wdiB y m q c = false from wdi0_no (by unfold wdiB0; simp; omega))
      have h3 : q < 0 ∨ (0 ≤ q ∧ 7 ≤ q) ∨ ((0 ≤ q ∧ q < 7) ∧ c < 1) ∨ ((0 ≤ q ∧ q < 7) ∧ 1 ≤ c ∧ 5 < c) := by omega
      clear h2 hM
      rcases h3 with g | ⟨g, g2⟩ | ⟨⟨g, g2⟩, g3⟩ | ⟨⟨g, g2⟩, g3, g4⟩
      all_goals
        go_enter Try.func30, Try.ntmps30
        go_wp2_with (go_at_call 20; refine (implDayOf_any _ _ _ _).mono ?_; rw [HO.out]; unfold RetI; rintro e w' ⟨rfl, rfl⟩)
        go_ret2
        exact ⟨by unfold RetI; rw [HB.out, wdi_no HB.out]; rfl, rfl⟩
end Go.Proofs.Ytlcdbfijjjobjaa
