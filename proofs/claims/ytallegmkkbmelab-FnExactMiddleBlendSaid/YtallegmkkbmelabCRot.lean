/-
  Two neighbouring blocks of a row change places (slices.rotateCmpFunc); two floats are compared (cmp.Compare).
-/
import Derived.Test.YtallegmkkbmelabAsr
import Derived.Test.YtallegmkkbmelabCPlc
import Derived.Test.YtallegmkkbmelabFlv
namespace Go.Proofs.Ytallegmkkbmelab
open Ieee Go.RowKit
set_option linter.unusedVariables false

theorem rot_more {F : Nat → Nat} {i j m : Nat} (h : j < i) (hm : i ≤ m) : rotF (swpR F (m - i) m j) (m - (i - j)) m (m + j) = rotF F (m - i) m (m + j) := by
  funext x
  simp only [rotF, swpR]
  repeat' split
  all_goals first | rfl | (exfalso; omega) | (congr 1; omega)
theorem rot_less {F : Nat → Nat} {i j m : Nat} (h : i < j) (hm : i ≤ m) : rotF (swpR F (m - i) (m + j - i) i) (m - i) m (m + (j - i)) = rotF F (m - i) m (m + j) := by
  funext x
  simp only [rotF, swpR]
  repeat' split
  all_goals first | rfl | (exfalso; omega) | (congr 1; omega)
theorem rot_same {F : Nat → Nat} {i m : Nat} (hm : i ≤ m) : swpR F (m - i) m i = rotF F (m - i) m (m + i) := by
  funext x
  simp only [rotF, swpR]
  repeat' split
  all_goals first | rfl | (exfalso; omega) | (congr 1; omega)

set_option maxHeartbeats 4000000 in
set_option maxRecDepth 100000 in
theorem rotate_any (g n cap c a m b : Nat) (f : Nat → Nat) (K : Value) (w : World) (h : Arr 28 g n c f w) (h1 : a < m) (h2 : m < b) (h3 : b ≤ n) (hn : n ≤ 1048576) :
    Calls Try.prog 97 #[.slice (some ⟨g, 0, none⟩) n cap, .int .i64 a, .int .i64 m, .int .i64 b, K] w (Sw 28 g n c (rotF f a m b) w) := by
  have HA := Lib.hid h
  have HR := Lib.hid (show rotF f (m - (m - a)) m (m + (b - m)) = rotF f a m b by rw [show m - (m - a) = a by omega, show m + (b - m) = b by omega])
  clear h
  go_enter Try.func97, Try.ntmps97
  go_wp2
  go_loopw [10, 11] (fun i j wr => ∃ (p q : Nat) (F : Nat → Nat), i = .int .i64 p ∧ j = .int .i64 q ∧ 0 < p ∧ 0 < q ∧ p ≤ m ∧ m + q ≤ n ∧ Hid (Only g w wr) ∧ Hid (Arr 28 g n c F wr) ∧ Hid (rotF F (m - p) m (m + q) = rotF f a m b)) (fun i j _ => (intOf i).toNat + (intOf j).toNat)
  case atStart => exact ⟨m - a, b - m, f, by go_num, by go_num, by omega, by omega, by omega, by omega, Lib.hid (Only.refl _ _), HA, HR⟩
  case round =>
    obtain ⟨p, q, F, rfl, rfl, hp, hq, hpm, hqn, ho, ha, hr⟩ := hrel
    rcases Nat.lt_trichotomy p q with hlt | heq | hgt
    · have hne : decide ((p : Int) = (q : Int)) = false := decide_eq_false (by omega)
      have HR2 := Lib.hid ((rot_less (F := F) hlt hpm).trans hr.out)
      obtain ⟨a1, e1⟩ : ∃ a1 : Nat, a1 + p = m := ⟨m - p, by omega⟩
      obtain ⟨b1, e2⟩ : ∃ b1 : Nat, b1 + p = m + q := ⟨m + q - p, by omega⟩
      have g1 : (m : Int) - (p : Int) = (a1 : Int) := by omega
      have g2 : (m : Int) + (q : Int) - (p : Int) = (b1 : Int) := by omega
      rw [show m - p = a1 by omega, show m + q - p = b1 by omega] at HR2
      go_wp2_with fail
      with_reducible refine (swapRange_any _ _ _ _ a1 b1 p F _ _ ha.out (by omega) (by omega) hn).mono ?_
      rintro e w1 ⟨rfl, ho1, ha1⟩
      have HO := Lib.hid (ho.out.trans ho1)
      have HA1 := Lib.hid ha1
      clear ho1 ha1 ho ha hr HA
      go_wp2
      go_roundw
      case rel => exact ⟨p, q - p, _, rfl, by go_num, hp, by omega, hpm, by omega, HO, HA1, by rw [show m - p = a1 by omega]; exact HR2⟩
      case measure => simp [intOf]; omega
    · subst heq
      have HR2 := Lib.hid ((rot_same (F := F) hpm).trans hr.out)
      obtain ⟨a1, e1⟩ : ∃ a1 : Nat, a1 + p = m := ⟨m - p, by omega⟩
      have g1 : (m : Int) - (p : Int) = (a1 : Int) := by omega
      rw [show m - p = a1 by omega] at HR2
      go_wp2_with fail
      with_reducible refine (swapRange_any _ _ _ _ a1 m p F _ _ ha.out (by omega) (by omega) hn).mono ?_
      rintro e w1 ⟨rfl, ho1, ha1⟩
      have HO := Lib.hid (ho.out.trans ho1)
      have HA1 := Lib.hid (show Arr 28 g n c (rotF f a m b) w1 by rw [← HR2.out]; exact ha1)
      clear ho1 ha1 ho ha hr HA
      go_wp2
      go_end0
      exact ⟨rfl, HO.out, HA1.out⟩
    · have hne : decide ((p : Int) = (q : Int)) = false := decide_eq_false (by omega)
      have HR2 := Lib.hid ((rot_more (F := F) hgt hpm).trans hr.out)
      obtain ⟨a1, e1⟩ : ∃ a1 : Nat, a1 + p = m := ⟨m - p, by omega⟩
      have g1 : (m : Int) - (p : Int) = (a1 : Int) := by omega
      rw [show m - p = a1 by omega] at HR2
      go_wp2_with fail
      with_reducible refine (swapRange_any _ _ _ _ a1 m q F _ _ ha.out (by omega) (by omega) hn).mono ?_
      rintro e w1 ⟨rfl, ho1, ha1⟩
      have HO := Lib.hid (ho.out.trans ho1)
      have HA1 := Lib.hid ha1
      clear ho1 ha1 ho ha hr HA
      go_wp2
      go_roundw
      case rel => exact ⟨p - q, q, _, by go_num, rfl, by omega, hq, by omega, hqn, HO, HA1, HR2⟩
      case measure => simp [intOf]; omega

/-- The order of words that are numbers. -/
def fkey (x : Nat) : Int := sr (FloatKind.format .f32) x
def cmpZ (x y : Nat) : Int := if fkey x < fkey y then -1 else if fkey y < fkey x then 1 else 0
theorem cmpZ_lt (x y : Nat) : decide (cmpZ x y < 0) = decide (fkey x < fkey y) := by
  unfold cmpZ
  by_cases h : fkey x < fkey y
  · rw [if_pos h]; simp [h]
  · rw [if_neg h]; split <;> simp [h]
theorem isNaNc_any (x : Nat) (w : World) (hx : isN .f32 x = false) : Calls Try.prog 92 #[.float .f32 x] w fun e w' => e = .returned (.bool false) ∧ w = w' := by
  have ho := order_self .f32 x
  simp only [hx, if_false, Bool.false_eq_true] at ho
  go_enter Try.func92, Try.ntmps92
  go_wp2
  all_goals (go_ret; exact ⟨rfl, rfl⟩)
theorem cmp_any (x y : Nat) (w : World) (hx : isN .f32 x = false) (hy : isN .f32 y = false) : Calls Try.prog 89 #[.float .f32 x, .float .f32 y] w (RetV (.int .i64 (cmpZ x y)) w) := by
  have ho := order_all .f32 x y hx hy
  rcases Int.lt_trichotomy (fkey x) (fkey y) with h | h | h
  · have hz := Lib.hid (show cmpZ x y = -1 by unfold cmpZ; rw [if_pos h])
    rw [show compare (sr (FloatKind.format .f32) x) (sr (FloatKind.format .f32) y) = .lt from Int.compare_eq_lt.2 h] at ho
    clear h
    go_enter Try.func89, Try.ntmps89
    go_wp2_with fail
    refine (isNaNc_any x _ hx).mono ?_
    rintro e w' ⟨rfl, rfl⟩
    go_wp2_with fail
    refine (isNaNc_any y _ hy).mono ?_
    rintro e w' ⟨rfl, rfl⟩
    go_wp2
    go_ret
    exact ⟨0, by rw [hz.out]; rfl, rfl⟩
  · have hz := Lib.hid (show cmpZ x y = 0 by unfold cmpZ; rw [if_neg (by omega), if_neg (by omega)])
    rw [show compare (sr (FloatKind.format .f32) x) (sr (FloatKind.format .f32) y) = .eq from Int.compare_eq_eq.2 h] at ho
    clear h
    go_enter Try.func89, Try.ntmps89
    go_wp2_with fail
    refine (isNaNc_any x _ hx).mono ?_
    rintro e w' ⟨rfl, rfl⟩
    go_wp2_with fail
    refine (isNaNc_any y _ hy).mono ?_
    rintro e w' ⟨rfl, rfl⟩
    go_wp2
    go_ret
    exact ⟨0, by rw [hz.out]; rfl, rfl⟩
  · have hz := Lib.hid (show cmpZ x y = 1 by unfold cmpZ; rw [if_neg (by omega), if_pos h])
    rw [show compare (sr (FloatKind.format .f32) x) (sr (FloatKind.format .f32) y) = .gt from Int.compare_eq_gt.2 h] at ho
    clear h
    go_enter Try.func89, Try.ntmps89
    go_wp2_with fail
    refine (isNaNc_any x _ hx).mono ?_
    rintro e w' ⟨rfl, rfl⟩
    go_wp2_with fail
    refine (isNaNc_any y _ hy).mono ?_
    rintro e w' ⟨rfl, rfl⟩
    go_wp2
    go_ret
    exact ⟨0, by rw [hz.out]; rfl, rfl⟩
end Go.Proofs.Ytallegmkkbmelab
