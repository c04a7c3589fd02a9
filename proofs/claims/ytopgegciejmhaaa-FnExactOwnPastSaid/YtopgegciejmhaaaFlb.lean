/-
  How great a 64-bit float can become: bounds by powers of two, kept by each operation.
-/
import Derived.Test.YtopgegciejmhaaaFlv
import Derived.Test.YtopgegciejmhaaaFnr
namespace Go.Proofs.Ytopgegciejmhaaa
open Ieee
set_option linter.unusedVariables false
set_option linter.unusedSimpArgs false

theorem log2_le_of_lt {m k : Nat} (h0 : 0 < m) (h : m < 2 ^ (k + 1)) : m.log2 ≤ k := by
  have := (Nat.log2_lt (by omega)).2 h; omega
theorem log2_ge_of_le {m k : Nat} (h : 2 ^ k ≤ m) : k ≤ m.log2 := by
  have h0 : m ≠ 0 := by have := Nat.two_pow_pos k; omega
  exact (Nat.le_log2 h0).2 h

theorem cut_le (neg : Bool) (n drop g : Nat) (hg : g = min drop (n.log2 + 2)) : Toward.even.cut neg n drop ≤ n / 2 ^ g + 1 := by
  subst hg
  unfold Toward.cut
  simp only [Nat.shiftLeft_eq, Nat.one_mul]
  have : ∀ b : Bool, b.toNat ≤ 1 := fun b => by cases b <;> decide
  exact Nat.add_le_add_left (this _) _
theorem cut_pow (neg : Bool) (L d : Nat) (h : d ≤ L) : Toward.even.cut neg (2 ^ L) d = 2 ^ (L - d) := by
  unfold Toward.cut
  have hl : (2 ^ L).log2 = L := Nat.log2_two_pow
  simp only [hl, Nat.shiftLeft_eq, Nat.one_mul, Nat.min_eq_left (show d ≤ L + 2 by omega)]
  have hd : 2 ^ L / 2 ^ d = 2 ^ (L - d) := Nat.pow_div h (by omega)
  have hm : 2 ^ L % 2 ^ d = 0 := by
    rw [show L = (L - d) + d by omega, Nat.pow_add]; exact Nat.mul_mod_left _ _
  rw [hd, hm]
  have hp := Nat.two_pow_pos d
  have e1 : decide (2 ^ d < 2 * 0) = false := decide_eq_false (by omega)
  have e2 : (2 ^ d == 2 * 0) = false := beq_eq_false_iff_ne.2 (by omega)
  simp [e1, e2]

/-- The nearest word of a number that is at most 2 ^ e. -/
theorem nearest_le (neg : Bool) (m : Nat) (p e : Int) (he : -1021 ≤ e) (he2 : e ≤ 1023) (c : Nat) (hc : 0 ≤ p + c) (hce : 0 ≤ e + c)
    (h : m * 2 ^ (p + c).toNat ≤ 2 ^ (e + c).toNat) : double.nearest neg m p % 9223372036854775808 ≤ (e + 1023).toNat * 4503599627370496 := by
  have hK : (e + 1023).toNat ≤ 2046 := by omega
  by_cases h0 : m = 0
  · subst h0
    unfold Format.nearest
    rw [if_pos rfl]
    obtain ⟨a, _, _⟩ := word_low neg (r := 0) (by omega)
    rw [a]; omega
  · have hm0 : 0 < m := by omega
    obtain ⟨b1, b2⟩ := log2_bounds hm0
    have hL : (m.log2 : Int) + p ≤ e := by
      have h1 : 2 ^ (m.log2 + (p + c).toNat) ≤ 2 ^ (e + c).toNat := by
        rw [Nat.pow_add]; exact Nat.le_trans (Nat.mul_le_mul_right _ b1) h
      have h2 := (Nat.pow_le_pow_iff_right (by omega : 1 < 2)).1 h1
      omega
    have key : ∃ R, double.nearest neg m p = double.word neg R ∧ R ≤ (e + 1023).toNat * 4503599627370496 := by
      unfold Format.nearest
      rw [if_neg h0]
      have hf : (double.fractionBits : Int) = 52 := rfl
      simp only [d_least, d_binade, d_inf, hf]
      refine ⟨_, rfl, Nat.le_trans (Nat.min_le_left ..) ?_⟩
      by_cases hn : -1074 ≤ p + (m.log2 : Int) - 52
      · rw [Int.max_eq_left hn]
        by_cases heq : (m.log2 : Int) + p = e
        · have hme : m = 2 ^ m.log2 := by
            have h1 : m * 2 ^ (p + c).toNat ≤ 2 ^ m.log2 * 2 ^ (p + c).toNat := by
              rw [← Nat.pow_add, show m.log2 + (p + c).toNat = (e + c).toNat by omega]; exact h
            exact Nat.le_antisymm (Nat.le_of_mul_le_mul_right h1 (Nat.two_pow_pos _)) b1
          have hk : Toward.even.cut neg (m <<< (p - (p + (m.log2 : Int) - 52)).toNat) (p + (m.log2 : Int) - 52 - p).toNat = 4503599627370496 := by
            generalize m.log2 = L at *
            subst hme
            rw [Nat.shiftLeft_eq, ← Nat.pow_add]
            by_cases hl : L ≤ 52
            · rw [show (p + (L : Int) - 52 - p).toNat = 0 by omega, cut_zero, show L + (p - (p + (L : Int) - 52)).toNat = 52 by omega]
            · rw [show (p - (p + (L : Int) - 52)).toNat = 0 by omega, Nat.add_zero, cut_pow _ _ _ (by omega), show L - (p + (L : Int) - 52 - p).toNat = 52 by omega]
          rw [hk]
          have : (p + (m.log2 : Int) - 52 - -1074).toNat + 1 = (e + 1023).toNat := by omega
          rw [← this]; omega
        · have hk : Toward.even.cut neg (m <<< (p - (p + (m.log2 : Int) - 52)).toNat) (p + (m.log2 : Int) - 52 - p).toNat ≤ 9007199254740992 := by
            by_cases hl : m.log2 ≤ 52
            · rw [show (p + (m.log2 : Int) - 52 - p).toNat = 0 by omega, cut_zero, Nat.shiftLeft_eq, show (p - (p + (m.log2 : Int) - 52)).toNat = 52 - m.log2 by omega]
              have : m * 2 ^ (52 - m.log2) < 2 ^ (m.log2 + 1) * 2 ^ (52 - m.log2) := Nat.mul_lt_mul_of_pos_right b2 (Nat.two_pow_pos _)
              rw [← Nat.pow_add, show m.log2 + 1 + (52 - m.log2) = 53 by omega] at this
              omega
            · rw [show (p - (p + (m.log2 : Int) - 52)).toNat = 0 by omega, Nat.shiftLeft_eq, Nat.pow_zero, Nat.mul_one]
              refine Nat.le_trans (cut_le neg m _ (m.log2 - 52) (by omega)) ?_
              have : m / 2 ^ (m.log2 - 52) < 2 ^ 53 := by
                rw [Nat.div_lt_iff_lt_mul (Nat.two_pow_pos _), ← Nat.pow_add, show 53 + (m.log2 - 52) = m.log2 + 1 by omega]; exact b2
              omega
          have : (p + (m.log2 : Int) - 52 - -1074).toNat + 2 ≤ (e + 1023).toNat := by omega
          have h3 : ((p + (m.log2 : Int) - 52 - -1074).toNat + 2) * 4503599627370496 ≤ (e + 1023).toNat * 4503599627370496 := Nat.mul_le_mul_right _ this
          rw [Nat.add_mul] at h3
          omega
      · rw [Int.max_eq_right (by omega)]
        have hk : Toward.even.cut neg (m <<< (p - -1074).toNat) (-1074 - p).toNat ≤ 9007199254740992 := by
          by_cases hl : -1074 ≤ p
          · rw [show (-1074 - p).toNat = 0 by omega, cut_zero, Nat.shiftLeft_eq]
            have : m * 2 ^ (p - -1074).toNat < 2 ^ (m.log2 + 1) * 2 ^ (p - -1074).toNat := Nat.mul_lt_mul_of_pos_right b2 (Nat.two_pow_pos _)
            rw [← Nat.pow_add] at this
            have h5 : 2 ^ (m.log2 + 1 + (p - -1074).toNat) ≤ 2 ^ 53 := Nat.pow_le_pow_right (by omega) (by omega)
            omega
          · rw [show (p - -1074).toNat = 0 by omega, Nat.shiftLeft_eq, Nat.pow_zero, Nat.mul_one]
            refine Nat.le_trans (cut_le neg m _ _ rfl) ?_
            have : m / 2 ^ (min (-1074 - p).toNat (m.log2 + 2)) < 2 ^ 52 := by
              rw [Nat.div_lt_iff_lt_mul (Nat.two_pow_pos _), ← Nat.pow_add]
              exact Nat.lt_of_lt_of_le b2 (Nat.pow_le_pow_right (by omega) (by omega))
            omega
        rw [show (-1074 - -1074 : Int).toNat = 0 by omega, Nat.zero_mul, Nat.zero_add]
        have : 2 ≤ (e + 1023).toNat := by omega
        have h3 : 2 * 4503599627370496 ≤ (e + 1023).toNat * 4503599627370496 := Nat.mul_le_mul_right _ this
        omega
    obtain ⟨R, hR, hR2⟩ := key
    have h4 : (e + 1023).toNat * 4503599627370496 ≤ 2046 * 4503599627370496 := Nat.mul_le_mul_right _ hK
    obtain ⟨a, _, _⟩ := word_low neg (r := R) (by omega)
    rw [hR, a]; exact hR2
end Go.Proofs.Ytopgegciejmhaaa
