/-
  The absolute value of a finite 32-bit float: by way of 64 bits, and by its sign.
-/
import Derived.Test.YthlpmbddpenpmaaFlg
import Derived.Test.YthlpmbddpenpmaaFld
import Derived.Test.YthlpmbddpenpmaaCAbs
import Derived.Test.YthlpmbddpenpmaaCFin
namespace Go.Proofs.Ythlpmbddpenpmaa
open Ieee Go.RowKit
set_option linter.unusedVariables false

theorem single_near (s : Bool) {m : Nat} {p : Int} (hm : m < 16777216) (hp : -149 ≤ p) (hp2 : p ≤ 104) (h : m < 8388608 → p = -149) :
    single.nearest s m p = single.word s ((p + 149).toNat * 8388608 + m) := by
  unfold Format.nearest
  by_cases h0 : m = 0
  · have hp0 := h (by omega)
    subst h0 hp0
    rw [if_pos rfl]; rfl
  · rw [if_neg h0]
    have hf : (single.fractionBits : Int) = 23 := rfl
    have hl := log2_lt24 hm
    have hlast : max (p + (m.log2 : Int) - (single.fractionBits : Int)) single.leastPlace = p := by
      rw [hf, s_least]
      by_cases h1 : m < 8388608
      · have := h h1; omega
      · have : m.log2 = 23 := (Nat.log2_eq_iff (by omega)).2 ⟨by omega, by omega⟩
        omega
    simp only [hlast]
    simp only [s_least, s_binade, s_inf]
    rw [show (p - p).toNat = 0 by omega, show (p - -149).toNat = (p + 149).toNat by omega, cut_zero, Nat.shiftLeft_eq, Nat.pow_zero, Nat.mul_one]
    rw [Nat.min_eq_left (by omega)]
theorem single_parts {x m : Nat} {s : Bool} {p : Int} (h : single.read x = .number s m p) : m < 16777216 ∧ -149 ≤ p ∧ p ≤ 104 ∧ (m < 8388608 → p = -149) ∧ (p + 149).toNat * 8388608 + m = x % 2147483648 ∧ x % 2147483648 < 2139095040 := by
  unfold Format.read at h
  simp only [s_sign, s_binade, s_inf, s_least] at h
  generalize x % 2147483648 = r at *
  by_cases h1 : r < 8388608
  · rw [if_pos h1] at h
    injection h with _ e1 e2
    subst e1 e2
    exact ⟨by omega, by omega, by omega, fun _ => rfl, by omega, by omega⟩
  · rw [if_neg h1] at h
    by_cases h2 : r < 2139095040
    · rw [if_pos h2] at h
      injection h with _ e1 e2
      subst e1 e2
      exact ⟨by omega, by omega, by omega, fun hh => by omega, by omega, by omega⟩
    · rw [if_neg h2] at h
      split at h <;> cases h
theorem word_false (r : Nat) : single.word false r = r := rfl
theorem single_back {x m : Nat} {s : Bool} {p : Int} (h : single.read x = .number s m p) : single.nearest false m p = x % 2147483648 := by
  obtain ⟨h1, h2, h3, h4, h5, _⟩ := single_parts h
  rw [single_near false h1 h2 h3 h4, h5]; rfl
theorem mag_read {y m : Nat} {s : Bool} {p : Int} (h : double.read y = .number s m p) : double.read (y % 9223372036854775808) = .number false m p := by
  unfold Format.read at h ⊢
  simp only [d_sign, d_binade, d_inf, d_least] at h ⊢
  rw [Nat.mod_mod]
  have e : (y % 9223372036854775808 / 9223372036854775808 % 2 == 1) = false := by rw [beq_eq_false_iff_ne]; omega
  rw [e]
  generalize y % 9223372036854775808 = r at *
  by_cases h1 : r < 4503599627370496
  · rw [if_pos h1] at h ⊢
    injection h with _ e1 e2
    subst e1 e2
    rfl
  · rw [if_neg h1] at h ⊢
    by_cases h2 : r < 9218868437227405312
    · rw [if_pos h2] at h ⊢
      injection h with _ e1 e2
      subst e1 e2
      rfl
    · rw [if_neg h2] at h
      split at h <;> cases h
theorem fin_read {x : Nat} (h : fin .f32 x = true) : ∃ s m p, single.read x = .number s m p := by
  unfold fin isN isI at h
  cases hr : single.read x with
  | number s m p => exact ⟨s, m, p, rfl⟩
  | infinity s => rw [show (FloatKind.format .f32).read x = .infinity s from hr] at h; simp [Datum.isNaN, Datum.isInfinity] at h
  | nan s t => rw [show (FloatKind.format .f32).read x = .nan s t from hr] at h; simp [Datum.isNaN, Datum.isInfinity] at h
theorem wide_mag {x : Nat} (h : fin .f32 x = true) : isN .f64 (awide x % 9223372036854775808) = false ∧ single.write (double.read (awide x % 9223372036854775808)) = x % 2147483648 := by
  obtain ⟨s, m, p, hr⟩ := fin_read h
  have hN : isN .f32 x = false := by
    unfold fin at h
    cases h2 : isN .f32 x
    · rfl
    · rw [h2] at h; cases h
  refine ⟨by rw [abs_nan, isN_awide]; exact hN, ?_⟩
  have hw := awide_read hr
  by_cases h0 : m = 0
  · rw [if_pos h0] at hw
    rw [mag_read hw]
    show single.nearest false 0 (-1074) = _
    rw [← single_back hr, h0]
    unfold Format.nearest
    rw [if_pos rfl, if_pos rfl]
  · rw [if_neg h0] at hw
    rw [mag_read hw]
    show single.nearest false (m * 2 ^ (52 - m.log2)) (p + m.log2 - 52) = _
    have hl := log2_lt24 (single_parts hr).1
    rw [nearest_scale single false m _ _ (by omega), ← single_back hr]
    congr 1
    omega
theorem anar_mag {x : Nat} (h : fin .f32 x = true) : anar (awide x % 9223372036854775808) = x % 2147483648 := by
  unfold anar
  rw [(wide_mag h).1, if_neg (by simp)]
  exact (wide_mag h).2
theorem narOk_mag {x : Nat} (h : fin .f32 x = true) : narOk (awide x % 9223372036854775808) := by
  intro hN
  obtain ⟨s, m, p, hr⟩ := fin_read h
  have hw := awide_read hr
  have hm2 := (wide_mag h).2
  have hlt := (single_parts hr).2.2.2.2.2
  have key : ∃ M P, double.read (awide x % 9223372036854775808) = .number false M P := by
    by_cases h0 : m = 0
    · rw [if_pos h0] at hw; exact ⟨_, _, mag_read hw⟩
    · rw [if_neg h0] at hw; exact ⟨_, _, mag_read hw⟩
  obtain ⟨M, P, hk⟩ := key
  rw [hk] at hm2
  unfold floatToFloatBits
  rw [if_neg (by decide), show FloatKind.decode .f64 (awide x % 9223372036854775808) = .number false M P from hk]
  have e : FloatKind.decode .f32 (FloatKind.encode .f32 (.number false M P)) = single.read (x % 2147483648) := by
    show single.read (single.write (.number false M P)) = _
    rw [hm2]
  have hi : (single.read (x % 2147483648)).isInfinity = false := by
    unfold Format.read
    simp only [s_sign, s_binade, s_inf, s_least]
    rw [Nat.mod_mod]
    generalize x % 2147483648 = r at *
    by_cases h1 : r < 8388608
    · rw [if_pos h1]; rfl
    · rw [if_neg h1, if_pos hlt]; rfl
  simp only [e, hi]
  rfl
theorem neg_mag {x : Nat} (h1 : 2147483648 ≤ x) (h2 : x < 4294967296) : Op.negFloat .f32 x = x % 2147483648 := by
  have e : Op.negFloat .f32 x % 2147483648 = x % 2147483648 := by
    show (x ^^^ 2 ^ 31) % 2 ^ 31 = x % 2 ^ 31
    rw [Nat.xor_mod_two_pow, Nat.mod_self, Nat.xor_zero]
  have hlt : Op.negFloat .f32 x < 2147483648 := by
    show x ^^^ 2 ^ 31 < 2 ^ 31
    refine Nat.lt_pow_two_of_testBit _ fun i hi => ?_
    rw [Nat.testBit_xor, Nat.testBit_two_pow]
    rcases Nat.lt_or_ge 31 i with h3 | h3
    · rw [Nat.testBit_lt_two_pow (Nat.lt_of_lt_of_le (show x < 2 ^ 32 by omega) (Nat.pow_le_pow_right (by omega) h3)), decide_eq_false (by omega)]; rfl
    · obtain rfl : i = 31 := by omega
      rw [decide_eq_true rfl, Nat.testBit_eq_decide_div_mod_eq, show x / 2 ^ 31 = 1 by omega]; rfl
  omega
end Go.Proofs.Ythlpmbddpenpmaa
