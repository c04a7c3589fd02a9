/-
  Easter, in both packages.
-/
import Derived.Test.YtlcdbfijjjobjaaCDat
namespace Go.Proofs.Ytlcdbfijjjobjaa
open Go.RowKit
set_option linter.unusedVariables false

def eH (y : Int) : Int := (19 * (y % 19) + y / 100 - y / 100 / 4 - (y / 100 - (y / 100 + 8) / 25 + 1) / 3 + 15) % 30
def eL (y : Int) : Int := (32 + 2 * (y / 100 % 4) + 2 * (y % 100 / 4) - eH y - y % 4) % 7
def eS (y : Int) : Int := eH y + eL y - 7 * ((y % 19 + 11 * eH y + 22 * eL y) / 451) + 114
theorem eS_all : ∀ k : Nat, k < 300 → (93 ≤ eS (1900 + k) ∧ eS (1900 + k) ≤ 153) := by decide +kernel
theorem eS_bd {y : Int} (h1 : 1900 ≤ y) (h2 : y ≤ 2199) : 93 ≤ eS y ∧ eS y ≤ 153 := by
  have := eS_all (y - 1900).toNat (by omega)
  rwa [show (1900 : Int) + ((y - 1900).toNat : Nat) = y by omega] at this
theorem eH_bd (y : Int) : 0 ≤ eH y ∧ eH y ≤ 29 := by unfold eH; omega
theorem eL_bd (y : Int) : 0 ≤ eL y ∧ eL y ≤ 6 := by unfold eL; omega
def easB (y : Int) : Bool := yearB y
def easR (y : Int) : Int := if yearB y then numZ y (eS y / 31) (eS y % 31 + 1) else 0
theorem easOk {y : Int} (h1 : 1900 ≤ y) (h2 : y ≤ 2199) : okZ y (eS y / 31) (eS y % 31 + 1) = true := by
  have b := eS_bd h1 h2
  refine decide_eq_true ⟨h1, h2, by omega, by omega, by omega, ?_⟩
  have hm : eS y / 31 = 3 ∨ eS y / 31 = 4 := by omega
  unfold monZ
  rcases hm with hm | hm
  · rw [hm]; simp; omega
  · rw [hm]; simp; omega
theorem specEaster_any (y : Int) (w : World) : Calls Try.prog 27 #[.int .i64 y] w fun e w' => e = RetI (easR y) (yearB y) ∧ Below w.heap.size w w' := by
  cases hy : yearB y
  · have HY := Lib.hid hy
    clear hy
    go_enter Try.func27, Try.ntmps27
    go_wp2_with (go_at_call 44; refine (specYear_any _ _).mono ?_; rw [HY.out]; rintro e w' ⟨rfl, rfl⟩)
    go_ret2
    exact ⟨by unfold RetI easR; rw [HY.out]; rfl, Below.refl _ _⟩
  · obtain ⟨h1, h2⟩ := yearB_t hy
    have HY := Lib.hid hy
    have HO := Lib.hid (okZ_t (easOk h1 h2))
    clear hy
    go_enter Try.func27, Try.ntmps27
    go_wp2_with (go_at_call 44; refine (specYear_any _ _).mono ?_; rw [HY.out]; rintro e w' ⟨rfl, rfl⟩)
    obtain ⟨_, _, c3, c4, c5, c6⟩ := HO.out
    have c7 := (monZ_bd y (eS y / 31)).2
    refine (specDate_any y (eS y / 31) (eS y % 31 + 1) _ h1 h2 c3 c4 c5 (by omega)).mono ?_
    rintro e w' ⟨rfl, hb⟩
    go_wp2
    go_ret2
    exact ⟨by unfold RetI easR; rw [HY.out]; rfl, hb⟩
theorem implEaster_any (y : Int) (w : World) : Calls Try.prog 28 #[.int .i64 y] w fun e w' => e = RetI (easR y) (yearB y) ∧ w = w' := by
  cases hy : yearB y
  · have HY := Lib.hid hy
    have hy1 := yearB_f hy
    clear hy
    by_cases g1 : 1900 ≤ y
    · have g2 : 2199 < y := by omega
      have hd1 : decide (1900 ≤ y) = true := decide_eq_true g1
      have hd2 : decide (y ≤ 2199) = false := decide_eq_false (by omega)
      clear hy1
      go_enter Try.func28, Try.ntmps28
      go_wp2_with (go_at_call 46; go_in)
      go_ret2
      exact ⟨by unfold RetI easR; rw [HY.out]; rfl, rfl⟩
    · have hd1 : decide (1900 ≤ y) = false := decide_eq_false g1
      clear hy1
      go_enter Try.func28, Try.ntmps28
      go_wp2_with (go_at_call 46; go_in)
      go_ret2
      exact ⟨by unfold RetI easR; rw [HY.out]; rfl, rfl⟩
  · obtain ⟨h1, h2⟩ := yearB_t hy
    have HY := Lib.hid hy
    have HO := Lib.hid (easOk h1 h2)
    have HK := Lib.hid (show RetI (dayR y (eS y / 31) (eS y % 31 + 1)) true = RetI (easR y) true by unfold easR dayR; rw [hy, easOk h1 h2])
    clear hy
    go_enter Try.func28, Try.ntmps28
    go_wp2_with (go_at_call 46; go_in)
    refine (implDayOf_any y (eS y / 31) (eS y % 31 + 1) _).mono ?_
    rw [HO.out]
    rintro e w' ⟨rfl, rfl⟩
    unfold RetI
    go_wp2
    go_ret2
    exact ⟨HK.out, rfl⟩
end Go.Proofs.Ytlcdbfijjjobjaa
