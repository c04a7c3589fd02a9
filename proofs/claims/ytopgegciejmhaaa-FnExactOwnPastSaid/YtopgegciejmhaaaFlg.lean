/-
  Doubling and halving are exact; lower bounds.
-/
import Derived.Test.YtopgegciejmhaaaFls
namespace Go.Proofs.Ytopgegciejmhaaa
open Ieee
set_option linter.unusedVariables false
set_option linter.unusedSimpArgs false

theorem log2_scale {m : Nat} (k : Nat) (h : 0 < m) : (m * 2 ^ k).log2 = m.log2 + k := by
  obtain ⟨b1, b2⟩ := log2_bounds h
  refine (Nat.log2_eq_iff (Nat.mul_ne_zero (by omega) (by have := Nat.two_pow_pos k; omega))).2 ⟨?_, ?_⟩
  · rw [Nat.pow_add]; exact Nat.mul_le_mul_right _ b1
  · rw [show m.log2 + k + 1 = (m.log2 + 1) + k by omega, Nat.pow_add]; exact Nat.mul_lt_mul_of_pos_right b2 (Nat.two_pow_pos _)
theorem cut_scale (s : Bool) (m k d : Nat) (h : 0 < m) : Toward.even.cut s (m * 2 ^ k) (d + k) = Toward.even.cut s m d := by
  unfold Toward.cut
  have hk := Nat.two_pow_pos k
  have hg : min (d + k) ((m * 2 ^ k).log2 + 2) = min d (m.log2 + 2) + k := by rw [log2_scale k h]; omega
  simp only [hg, Nat.shiftLeft_eq, Nat.one_mul]
  generalize min d (m.log2 + 2) = g
  have e1 : m * 2 ^ k / 2 ^ (g + k) = m / 2 ^ g := by rw [Nat.pow_add]; exact Nat.mul_div_mul_right _ _ hk
  have e2 : m * 2 ^ k % 2 ^ (g + k) = m % 2 ^ g * 2 ^ k := by rw [Nat.pow_add]; exact Nat.mul_mod_mul_right _ _ _
  rw [e1, e2, Nat.pow_add]
  have e3 : (2 ^ g * 2 ^ k < 2 * (m % 2 ^ g * 2 ^ k)) ↔ (2 ^ g < 2 * (m % 2 ^ g)) := by
    rw [← Nat.mul_assoc]; exact ⟨fun h => Nat.lt_of_mul_lt_mul_right h, fun h => Nat.mul_lt_mul_of_pos_right h hk⟩
  have e4 : (2 ^ g * 2 ^ k = 2 * (m % 2 ^ g * 2 ^ k)) ↔ (2 ^ g = 2 * (m % 2 ^ g)) := by
    rw [← Nat.mul_assoc]; exact ⟨fun h => Nat.eq_of_mul_eq_mul_right hk h, fun h => congrArg (fun t => t * 2 ^ k) h⟩
  congr 1
  congr 1
  rw [decide_eq_decide.2 e3]
  congr 1
  congr 1
  rw [Bool.eq_iff_iff, beq_iff_eq, beq_iff_eq]
  exact e4
theorem cut_exact (s : Bool) (m k d : Nat) (h : 0 < m) (hd : d ≤ k) : Toward.even.cut s (m * 2 ^ k) d = m * 2 ^ (k - d) := by
  have : m * 2 ^ k = (m * 2 ^ (k - d)) * 2 ^ d := by rw [Nat.mul_assoc, ← Nat.pow_add, show k - d + d = k by omega]
  rw [this]
  have h2 := cut_scale s (m * 2 ^ (k - d)) d 0 (Nat.mul_pos h (Nat.two_pow_pos _))
  rw [Nat.zero_add, cut_zero] at h2
  exact h2
/-- The nearest word does not mind where the point is. -/
theorem nearest_scale (f : Format) (s : Bool) (m k : Nat) (p : Int) (h : 0 < m) : f.nearest s (m * 2 ^ k) p = f.nearest s m (p + k) := by
  unfold Format.nearest
  have hk := Nat.two_pow_pos k
  rw [if_neg (Nat.mul_ne_zero (by omega) (by omega)), if_neg (by omega)]
  rw [log2_scale k h]
  have e0 : p + ((m.log2 + k : Nat) : Int) - (f.fractionBits : Int) = p + (k : Int) + (m.log2 : Int) - (f.fractionBits : Int) := by omega
  simp only [e0]
  generalize max (p + (k : Int) + (m.log2 : Int) - (f.fractionBits : Int)) f.leastPlace = last
  have e1 : Toward.even.cut s ((m * 2 ^ k) <<< (p - last).toNat) (last - p).toNat = Toward.even.cut s (m <<< (p + (k : Int) - last).toNat) (last - (p + (k : Int))).toNat := by
    rw [Nat.shiftLeft_eq, Nat.shiftLeft_eq]
    by_cases h1 : last ≤ p
    · rw [show (last - p).toNat = 0 by omega, show (last - (p + (k : Int))).toNat = 0 by omega, cut_zero, cut_zero, Nat.mul_assoc, ← Nat.pow_add]
      congr 2; omega
    · rw [show (p - last).toNat = 0 by omega, Nat.pow_zero, Nat.mul_one]
      by_cases h2 : last ≤ p + k
      · rw [show (last - (p + (k : Int))).toNat = 0 by omega, cut_zero, cut_exact s m k _ h (by omega)]
        congr 2; omega
      · rw [show (p + (k : Int) - last).toNat = 0 by omega, Nat.pow_zero, Nat.mul_one, show (last - p).toNat = (last - (p + (k : Int))).toNat + k by omega, cut_scale s m k _ h]
  rw [e1]

theorem write_num (s : Bool) (m : Nat) (p : Int) : double.write (.number s m p) = double.nearest s m p := rfl
/-- A normal positive word, read. -/
theorem normal_read {r : Nat} (h1 : 4503599627370496 ≤ r) (h2 : r < 9218868437227405312) : double.read r = .number false (4503599627370496 + r % 4503599627370496) (-1074 + (r / 4503599627370496 - 1 : Nat)) := by
  have e : double.word false r = r := rfl
  rw [← e, read_word _ _ (by rw [d_sign]; omega), d_binade, d_inf, d_least, e, if_neg (by omega), if_pos h2]
theorem normal_near {r : Nat} (h1 : 4503599627370496 ≤ r) (h2 : r < 9218868437227405312) : double.nearest false (4503599627370496 + r % 4503599627370496) (-1074 + (r / 4503599627370496 - 1 : Nat)) = r := by
  have hl : (4503599627370496 + r % 4503599627370496).log2 = 52 := (Nat.log2_eq_iff (by omega)).2 ⟨by omega, by omega⟩
  obtain ⟨e, _, _⟩ := wide_nearest false (4503599627370496 + r % 4503599627370496) (-1074 + (r / 4503599627370496 - 1 : Nat)) (by omega) (by omega) (by omega) (by omega)
  rw [e, hl]
  show (_ : Int).toNat * 4503599627370496 + _ * 2 ^ (52 - 52) = r
  rw [show ((-1074 + (r / 4503599627370496 - 1 : Nat) : Int) + (52 : Nat) + 1022).toNat = r / 4503599627370496 - 1 by omega]
  omega
theorem mul_two {r : Nat} (h1 : 4503599627370496 ≤ r) (h2 : r < 9214364837600034816) : floatBits .mul .f64 r 4611686018427387904 = some (r + 4503599627370496) := by
  show double.mul r 4611686018427387904 = _
  unfold Format.mul
  rw [normal_read h1 (by omega), show double.read 4611686018427387904 = .number false 4503599627370496 (-51) by decide +kernel]
  simp only [Datum.product, Option.map_some]
  show some (double.nearest (false ^^ false) _ _) = _
  have e := normal_near (r := r + 4503599627370496) (by omega) (by omega)
  rw [show (r + 4503599627370496) % 4503599627370496 = r % 4503599627370496 by omega, show (r + 4503599627370496) / 4503599627370496 - 1 = r / 4503599627370496 by omega] at e
  have h3 := nearest_scale double false (4503599627370496 + r % 4503599627370496) 52 (-1074 + (r / 4503599627370496 - 1 : Nat) + -51) (by omega)
  rw [show (2 : Nat) ^ 52 = 4503599627370496 by decide] at h3
  rw [show (false ^^ false) = false from rfl, h3, ← e]
  congr 2
  omega
theorem quo_unit (s t : Bool) (M K D : Nat) (i j : Int) (hl : M.log2 = 52) (hK : K.log2 = 52) (hK0 : 0 < K) (h4 : 2 ^ 54 = 4 * K) (hD : D = 54) :
    (Datum.number s M i).quotient D (.number t K j) = some (.number (s ^^ t) (M * 2 ^ 3) (i - j - 54 - 1)) := by
  simp only [Datum.quotient]
  rw [if_neg (by omega), hl, hK, show D + 52 - 52 = 54 by omega, Nat.shiftLeft_eq, h4, ← Nat.mul_assoc]
  have hd : M * 4 * K / K = M * 4 := Nat.mul_div_cancel _ hK0
  have hm : M * 4 * K % K = 0 := Nat.mul_mod_left _ _
  rw [hd, hm]
  have h8 : 2 * (M * 4) + ((0 : Nat) != 0).toNat = M * 2 ^ 3 := by
    show 2 * (M * 4) + 0 = M * 2 ^ 3
    omega
  rw [h8]
  rfl
theorem div_of {x y : Nat} {d e g : Datum} (hx : double.read x = d) (hy : double.read y = e) (h : d.quotient 54 e = some g) : floatBits .quo .f64 x y = some (double.write g) := by
  show (Option.map double.write ((double.read x).quotient 54 (double.read y))) = _
  rw [hx, hy, h]; rfl
theorem quo_two {r : Nat} (h1 : 9007199254740992 ≤ r) (h2 : r < 9218868437227405312) : floatBits .quo .f64 r 4611686018427387904 = some (r - 4503599627370496) := by
  have hl : (4503599627370496 + r % 4503599627370496).log2 = 52 := (Nat.log2_eq_iff (by omega)).2 ⟨by omega, by omega⟩
  have hl2 : (4503599627370496 : Nat).log2 = 52 := by decide +kernel
  have h4 : (2 : Nat) ^ 54 = 4 * 4503599627370496 := by decide
  have hq := quo_unit false false (4503599627370496 + r % 4503599627370496) 4503599627370496 54 (-1074 + (r / 4503599627370496 - 1 : Nat)) (-51) hl hl2 (by omega) h4 rfl
  rw [div_of (normal_read (by omega) h2) (show double.read 4611686018427387904 = .number false 4503599627370496 (-51) by decide +kernel) hq, write_num]
  have e := normal_near (r := r - 4503599627370496) (by omega) (by omega)
  rw [show (r - 4503599627370496) % 4503599627370496 = r % 4503599627370496 by omega, show (r - 4503599627370496) / 4503599627370496 - 1 = r / 4503599627370496 - 2 by omega] at e
  have hM0 : 0 < 4503599627370496 + r % 4503599627370496 := by omega
  have hp : (-1074 + (r / 4503599627370496 - 1 : Nat) - -51 - 54 - 1 : Int) + (3 : Nat) = -1074 + (r / 4503599627370496 - 2 : Nat) := by omega
  generalize 4503599627370496 + r % 4503599627370496 = M at *
  generalize (-1074 + (r / 4503599627370496 - 1 : Nat) - -51 - 54 - 1 : Int) = pl at *
  have h3 := nearest_scale double false M 3 pl hM0
  rw [show (false ^^ false) = false from rfl, h3, hp, e]
end Go.Proofs.Ytopgegciejmhaaa
