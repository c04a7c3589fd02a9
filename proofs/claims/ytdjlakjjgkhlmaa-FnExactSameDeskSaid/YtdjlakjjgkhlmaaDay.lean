/-
  The calendar, plainly: leap years, months, numbers of days, weekdays.
-/
namespace Go.Proofs.Ytdjlakjjgkhlmaa
def leapZ (y : Int) : Bool := decide (y % 4 = 0 ∧ ¬ y % 100 = 0 ∨ y % 400 = 0)
def yearB (y : Int) : Bool := decide (1900 ≤ y ∧ y ≤ 2199)
def dayB (n : Int) : Bool := decide (-36524 ≤ n ∧ n ≤ 73048)
def longZ (y : Int) : Int := if leapZ y then 366 else 365
def firstZ (y : Int) : Int := 365 * (y - 2000) + ((y - 1) / 4 - (y - 1) / 100 + (y - 1) / 400) - 485 + 1
def monZ (y m : Int) : Int := if m = 2 then (if leapZ y then 29 else 28) else if m = 4 ∨ m = 6 ∨ m = 9 ∨ m = 11 then 30 else 31
def cumZ (y m : Int) : Int := (if 2 ≤ m then 31 else 0) + (if 3 ≤ m then (if leapZ y then 29 else 28) else 0) + (if 4 ≤ m then 31 else 0) + (if 5 ≤ m then 30 else 0) + (if 6 ≤ m then 31 else 0) + (if 7 ≤ m then 30 else 0)
  + (if 8 ≤ m then 31 else 0) + (if 9 ≤ m then 31 else 0) + (if 10 ≤ m then 30 else 0) + (if 11 ≤ m then 31 else 0) + (if 12 ≤ m then 30 else 0) + (if 13 ≤ m then 31 else 0)
def numZ (y m d : Int) : Int := firstZ y + cumZ y m + d - 1
def okZ (y m d : Int) : Bool := decide (1900 ≤ y ∧ y ≤ 2199 ∧ 1 ≤ m ∧ m ≤ 12 ∧ 1 ≤ d ∧ d ≤ monZ y m)
theorem leapZ_t {y : Int} (h : leapZ y = true) : y % 4 = 0 ∧ ¬ y % 100 = 0 ∨ y % 400 = 0 := of_decide_eq_true h
theorem leapZ_f {y : Int} (h : leapZ y = false) : ¬ (y % 4 = 0 ∧ ¬ y % 100 = 0 ∨ y % 400 = 0) := of_decide_eq_false h
theorem firstZ_succ (y : Int) : firstZ (y + 1) = firstZ y + longZ y := by
  unfold firstZ longZ
  cases h : leapZ y
  · have := leapZ_f h; simp; omega
  · have := leapZ_t h; simp; omega
theorem firstZ_2000 : firstZ 2000 = 0 := by decide
theorem longZ_bd (y : Int) : 365 ≤ longZ y ∧ longZ y ≤ 366 := by unfold longZ; split <;> omega
theorem firstZ_bd (y : Int) (h1 : 1900 ≤ y) (h2 : y ≤ 2200) : -36524 ≤ firstZ y ∧ firstZ y ≤ 73049 := by unfold firstZ; omega
theorem firstZ_mono {a b : Int} (h : a ≤ b) : firstZ a ≤ firstZ b := by unfold firstZ; omega
theorem monZ_bd (y m : Int) : 28 ≤ monZ y m ∧ monZ y m ≤ 31 := by unfold monZ; repeat' split <;> omega
theorem cumZ_1 (y : Int) : cumZ y 1 = 0 := by simp [cumZ]
theorem m12 {m : Int} (h1 : 1 ≤ m) (h2 : m ≤ 12) : m = 1 ∨ m = 2 ∨ m = 3 ∨ m = 4 ∨ m = 5 ∨ m = 6 ∨ m = 7 ∨ m = 8 ∨ m = 9 ∨ m = 10 ∨ m = 11 ∨ m = 12 := by omega
theorem cumZ_succ (y m : Int) (h1 : 1 ≤ m) (h2 : m ≤ 12) : cumZ y (m + 1) = cumZ y m + monZ y m := by
  rcases m12 h1 h2 with rfl | rfl | rfl | rfl | rfl | rfl | rfl | rfl | rfl | rfl | rfl | rfl <;> simp [cumZ, monZ] <;> omega
theorem cumZ_13 (y : Int) : cumZ y 13 = longZ y := by simp [cumZ, longZ]; cases leapZ y <;> rfl
theorem cumZ_bd (y m : Int) (h1 : 1 ≤ m) (h2 : m ≤ 13) : 0 ≤ cumZ y m ∧ cumZ y m ≤ 366 := by
  unfold cumZ; cases leapZ y <;> (simp; omega)
theorem cumZ_mono (y : Int) {a b : Int} (h : a ≤ b) : cumZ y a ≤ cumZ y b := by
  unfold cumZ; cases leapZ y <;> (simp; omega)
theorem okZ_t {y m d : Int} (h : okZ y m d = true) : 1900 ≤ y ∧ y ≤ 2199 ∧ 1 ≤ m ∧ m ≤ 12 ∧ 1 ≤ d ∧ d ≤ monZ y m := of_decide_eq_true h
theorem numZ_bd {y m d : Int} (h : okZ y m d = true) : firstZ y ≤ numZ y m d ∧ numZ y m d < firstZ (y + 1) := by
  obtain ⟨_, _, h1, h2, h3, h4⟩ := okZ_t h
  have a := cumZ_bd y m h1 (by omega)
  have b := cumZ_succ y m h1 h2
  have c := cumZ_mono y (a := m + 1) (b := 13) (by omega)
  rw [cumZ_13] at c
  rw [firstZ_succ]
  unfold numZ
  omega
theorem numZ_inj {y m d y' m' d' : Int} (h : okZ y m d = true) (h' : okZ y' m' d' = true) (e : numZ y m d = numZ y' m' d') : y = y' ∧ m = m' ∧ d = d' := by
  have b := numZ_bd h
  have b' := numZ_bd h'
  have ey : y = y' := by
    rcases Int.lt_trichotomy y y' with hl | hl | hl
    · have := firstZ_mono (a := y + 1) (b := y') (by omega); omega
    · exact hl
    · have := firstZ_mono (a := y' + 1) (b := y) (by omega); omega
  subst ey
  obtain ⟨_, _, h1, h2, h3, h4⟩ := okZ_t h
  obtain ⟨_, _, h1', h2', h3', h4'⟩ := okZ_t h'
  have s := cumZ_succ y m h1 h2
  have s' := cumZ_succ y m' h1' h2'
  unfold numZ at e
  have em : m = m' := by
    rcases Int.lt_trichotomy m m' with hl | hl | hl
    · have := cumZ_mono y (a := m + 1) (b := m') (by omega); omega
    · exact hl
    · have := cumZ_mono y (a := m' + 1) (b := m) (by omega); omega
  subst em
  exact ⟨rfl, rfl, by omega⟩
theorem numZ_day {y m d : Int} (h : okZ y m d = true) : dayB (numZ y m d) = true := by
  have b := numZ_bd h
  obtain ⟨h1, h2, _⟩ := okZ_t h
  have a := firstZ_mono (a := 1900) (b := y) h1
  have c := firstZ_mono (a := y + 1) (b := 2200) (by omega)
  rw [show firstZ 1900 = -36524 by decide] at a
  rw [show firstZ 2200 = 73049 by decide] at c
  exact decide_eq_true (by omega)
/-- The weekday. -/
def wdZ (n : Int) : Int := (n + 36524) % 7
theorem wdZ_bd (n : Int) : 0 ≤ wdZ n ∧ wdZ n ≤ 6 := by unfold wdZ; omega
theorem guess (n : Int) (h1 : -36524 ≤ n) (h2 : n ≤ 73048) : 1900 ≤ 1900 + (n + 36524) / 366 ∧ 1900 + (n + 36524) / 366 ≤ 2199 ∧ firstZ (1900 + (n + 36524) / 366) ≤ n := by
  unfold firstZ; omega
end Go.Proofs.Ytdjlakjjgkhlmaa
