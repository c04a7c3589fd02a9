/-
  A number less its whole part is at most 1.
-/
import Derived.Test.YtopgegciejmhaaaFle
namespace Go.Proofs.Ytopgegciejmhaaa
open Ieee
set_option linter.unusedVariables false
set_option linter.unusedSimpArgs false

/-- The whole part, as an integer. -/
def toI (x : Nat) : Int := ((double.read x).toInt .zero).getD 0
theorem zero_cut (s : Bool) (n drop : Nat) : Toward.zero.cut s n drop = n / 2 ^ (min drop (n.log2 + 2)) := by
  unfold Toward.cut
  simp only [Nat.shiftLeft_eq, Nat.one_mul]
  rfl
/-- The whole part of m * 2 ^ (E - 1074), in units of the least one. -/
theorem whole_part (K : Nat) (hK : K = 1074) (s : Bool) (m E : Nat) : ∃ t, Toward.zero.cut s (m <<< (-1074 + (E : Int)).toNat) (-(-1074 + (E : Int))).toNat = t ∧ t * 2 ^ K ≤ m * 2 ^ E ∧ m * 2 ^ E < (t + 1) * 2 ^ K := by
  rw [zero_cut]
  by_cases h : 1074 ≤ E
  · refine ⟨m * 2 ^ (E - 1074), ?_, ?_, ?_⟩
    · rw [show (-(-1074 + (E : Int))).toNat = 0 by omega, Nat.zero_min, Nat.pow_zero, Nat.div_one, Nat.shiftLeft_eq, show (-1074 + (E : Int)).toNat = E - 1074 by omega]
    · rw [Nat.mul_assoc, ← Nat.pow_add, show E - 1074 + K = E by omega]; exact Nat.le_refl _
    · have : m * 2 ^ E = m * 2 ^ (E - 1074) * 2 ^ K := by rw [Nat.mul_assoc, ← Nat.pow_add, show E - 1074 + K = E by omega]
      rw [this]
      exact Nat.mul_lt_mul_of_pos_right (by omega) (Nat.two_pow_pos _)
  · rw [show (-1074 + (E : Int)).toNat = 0 by omega, Nat.shiftLeft_eq, Nat.pow_zero, Nat.mul_one, show (-(-1074 + (E : Int))).toNat = 1074 - E by omega]
    have hk : ∃ t, m / 2 ^ (min (1074 - E) (m.log2 + 2)) = t ∧ t * 2 ^ (1074 - E) ≤ m ∧ m < (t + 1) * 2 ^ (1074 - E) := by
      by_cases h2 : 1074 - E ≤ m.log2 + 2
      · rw [Nat.min_eq_left h2]
        refine ⟨_, rfl, Nat.div_mul_le_self _ _, ?_⟩
        rw [Nat.mul_comm]
        exact Nat.lt_mul_div_succ _ (Nat.two_pow_pos _)
      · rw [Nat.min_eq_right (by omega)]
        have hlt : m < 2 ^ (m.log2 + 1) := Nat.lt_log2_self
        have h3 : 2 ^ (m.log2 + 1) ≤ 2 ^ (m.log2 + 2) := Nat.pow_le_pow_right (by omega) (by omega)
        have h4 : 2 ^ (m.log2 + 2) ≤ 2 ^ (1074 - E) := Nat.pow_le_pow_right (by omega) (by omega)
        refine ⟨0, Nat.div_eq_of_lt (by omega), by omega, by omega⟩
    obtain ⟨t, ht, h1, h2⟩ := hk
    refine ⟨t, ht, ?_, ?_⟩
    · have := Nat.mul_le_mul_right (2 ^ E) h1
      rwa [Nat.mul_assoc, ← Nat.pow_add, show 1074 - E + E = K by omega] at this
    · have := Nat.mul_lt_mul_of_pos_right h2 (Nat.two_pow_pos E)
      rwa [Nat.mul_assoc, ← Nat.pow_add, show 1074 - E + E = K by omega] at this

theorem toI_spec (K : Nat) (hK : K = 1074) {x : Nat} (h : bd x 52) : ∃ s m, ∃ E t : Nat, double.read x = .number s m (-1074 + E) ∧ toI x = (if s then -(t : Int) else (t : Int)) ∧ t * 2 ^ K ≤ m * 2 ^ E ∧ m * 2 ^ E < (t + 1) * 2 ^ K ∧ t ≤ 4503599627370496 := by
  obtain ⟨s, m, E, hr, hm⟩ := bd_read h
  obtain ⟨t, ht, h1, h2⟩ := whole_part K hK s m E
  refine ⟨s, m, E, t, hr, ?_, h1, h2, ?_⟩
  · unfold toI
    rw [hr]
    simp only [Datum.toInt, Datum.integral]
    rw [ht]
    show signed s t 0 = _
    unfold signed
    simp
  · have h3 : t * 2 ^ K ≤ 2 ^ 52 * 2 ^ K := by
      rw [← Nat.pow_add, show 52 + K = ((52 : Int) + 1074).toNat by omega]; exact Nat.le_trans h1 hm
    exact Nat.le_of_mul_le_mul_right h3 (Nat.two_pow_pos _)

theorem toI_val {x : Nat} (h : bd x 52) : floatToIntVal .f64 x .i64 = some (toI x) := by
  obtain ⟨K, hK⟩ : ∃ K : Nat, K = 1074 := ⟨_, rfl⟩
  obtain ⟨s, m, E, t, hr, ht, _, _, hb⟩ := toI_spec K hK h
  have e : (FloatKind.decode .f64 x).toInt .zero = some (toI x) := by
    unfold toI
    show (double.read x).toInt .zero = some (((double.read x).toInt .zero).getD 0)
    rw [hr]; rfl
  unfold floatToIntVal
  rw [e]
  simp only
  rw [if_pos]
  rw [ht]
  show -9223372036854775808 ≤ (if s = true then -(t : Int) else (t : Int)) ∧ (if s = true then -(t : Int) else (t : Int)) ≤ 9223372036854775807
  split <;> omega

theorem part_bd {x : Nat} (h : bd x 52) : bd (aop .sub .f64 x (floatOfInt .f64 (toI x))) 0 := by
  obtain ⟨K, hK⟩ : ∃ K : Nat, K = 1074 := ⟨_, rfl⟩
  obtain ⟨s, m, E, t, hr, ht, h1, h2, hb⟩ := toI_spec K hK h
  have hI : ∃ u T, ∃ D : Nat, double.read (floatOfInt .f64 (toI x)) = .number u T (-1074 + (D : Int)) ∧ T * 2 ^ D = t * 2 ^ K ∧ (0 < t → u = s) := by
    show ∃ u T, ∃ D : Nat, double.read (double.nearest (toI x < 0) (toI x).natAbs 0) = .number u T (-1074 + (D : Int)) ∧ _
    have hab : (toI x).natAbs = t := by rw [ht]; split <;> omega
    rw [hab]
    by_cases h0 : t = 0
    · subst h0
      exact ⟨_, 0, 0, zero_read _ _, by omega, fun h => by omega⟩
    · have hL : t.log2 ≤ 52 := log2_le_of_lt (by omega) (by omega)
      refine ⟨decide (toI x < 0), t * 2 ^ (52 - t.log2), 1022 + t.log2, ?_, ?_, ?_⟩
      · rw [wide_read _ t 0 (by omega) hL (by omega) (by omega)]
        congr 1
        omega
      · rw [Nat.mul_assoc, ← Nat.pow_add, show 52 - t.log2 + (1022 + t.log2) = K by omega]
      · intro hp
        rw [ht]
        cases s <;> simp <;> omega
  obtain ⟨u, T, D, hq, hT, hu⟩ := hI
  have hd : floatBits .sub .f64 x (floatOfInt .f64 (toI x)) = (((Datum.number s m (-1074 + (E : Int))).sum (.number (!u) T (-1074 + (D : Int)))).map double.write) := by
    show double.sub x _ = _
    unfold Format.sub; rw [hr, hq]; rfl
  have hsum : ∃ d, (Datum.number s m (-1074 + (E : Int))).sum (.number (!u) T (-1074 + (D : Int))) = some d ∧ bd (double.write d) 0 := by
    simp only [Datum.sum]
    refine ⟨_, rfl, ?_⟩
    generalize hbase : min (-1074 + (E : Int)) (-1074 + (D : Int)) = base
    have k1 : (-1074 + (E : Int) - base).toNat + min E D = E := by omega
    have k2 : (-1074 + (D : Int) - base).toNat + min E D = D := by omega
    show bd (double.nearest _ (signed s m (-1074 + (E : Int) - base).toNat + signed (!u) T (-1074 + (D : Int) - base).toNat).natAbs base) 0
    refine bd_nearest _ _ _ _ (by omega) (by omega) 1074 (by omega) (by omega) ?_
    rw [show (base + (1074 : Nat)).toNat = min E D by omega, show ((0 : Int) + (1074 : Nat)).toNat = K by omega]
    have e1 : m * 2 ^ (-1074 + (E : Int) - base).toNat * 2 ^ (min E D) = m * 2 ^ E := by rw [Nat.mul_assoc, ← Nat.pow_add, k1]
    have e2 : T * 2 ^ (-1074 + (D : Int) - base).toNat * 2 ^ (min E D) = t * 2 ^ K := by rw [Nat.mul_assoc, ← Nat.pow_add, k2, hT]
    rw [signed_mag, signed_mag]
    generalize m * 2 ^ (-1074 + (E : Int) - base).toNat = A at *
    generalize T * 2 ^ (-1074 + (D : Int) - base).toNat = C at *
    have hle : C ≤ A := by
      have : C * 2 ^ (min E D) ≤ A * 2 ^ (min E D) := by rw [e1, e2]; exact h1
      exact Nat.le_of_mul_le_mul_right this (Nat.two_pow_pos _)
    have hna : ((if s = true then -(A : Int) else (A : Int)) + (if (!u) = true then -(C : Int) else (C : Int))).natAbs = A - C := by
      by_cases hC : C = 0
      · subst hC; cases s <;> cases u <;> simp <;> omega
      · have h0 : 0 < t := by
          rcases Nat.eq_zero_or_pos t with h | h
          · subst h; rw [Nat.zero_mul] at e2
            have := Nat.mul_eq_zero.1 e2
            have := Nat.two_pow_pos (min E D)
            omega
          · exact h
        rw [hu h0]
        cases s <;> simp <;> omega
    rw [hna, Nat.sub_mul, e1, e2, Nat.add_mul] at *
    omega
  obtain ⟨d, h3, h4⟩ := hsum
  rw [h3] at hd
  rw [aop_some hd]; exact h4
end Go.Proofs.Ytopgegciejmhaaa
