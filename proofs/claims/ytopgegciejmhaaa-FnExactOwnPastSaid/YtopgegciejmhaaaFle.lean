/-
  Bounds of roots; what a 32-bit number is as a 64-bit one.
-/
import Derived.Test.YtopgegciejmhaaaFld
namespace Go.Proofs.Ytopgegciejmhaaa
open Ieee
set_option linter.unusedVariables false
set_option linter.unusedSimpArgs false

theorem rootFrom_lt (n : Nat) : ∀ todo root : Nat, Datum.rootFrom n todo root < root + 2 ^ todo
  | 0, root => by unfold Datum.rootFrom; omega
  | todo + 1, root => by
    unfold Datum.rootFrom
    simp only [Nat.shiftLeft_eq, Nat.one_mul]
    rw [Nat.pow_succ]
    split
    · have := rootFrom_lt n todo (root + 2 ^ todo); omega
    · have := rootFrom_lt n todo root; omega

theorem sq_bd {x : Nat} {a : Int} (h : bd x a) : isN .f64 (asq x) = true ∨ bd (asq x) (a / 2 + 2) := by
  obtain ⟨s, m, E, hr, hm⟩ := bd_read h
  obtain ⟨h1, h2, _⟩ := h
  have hs : double.sqrt x = ((Datum.number s m (-1074 + (E : Int))).root 54).map double.write := by unfold Format.sqrt; rw [hr]; rfl
  unfold asq
  rw [hs]
  simp only [Datum.root]
  by_cases h0 : m = 0
  · rw [if_pos h0]
    right
    subst h0
    show bd (double.nearest s 0 (-1074 + (E : Int))) _
    exact bd_nearest _ _ _ _ (by omega) (by omega) 1074 (by omega) (by omega) (by simp)
  · rw [if_neg h0]
    by_cases hS : s = true
    · rw [if_pos hS]; left; exact isN_nanOf _
    · rw [if_neg hS]
      right
      have hm0 : 0 < m := by omega
      obtain ⟨b1, b2⟩ := log2_bounds hm0
      have hL : (m.log2 : Int) + E ≤ a + 1074 := by
        have : 2 ^ (m.log2 + E) ≤ 2 ^ (a + 1074).toNat := by rw [Nat.pow_add]; exact Nat.le_trans (Nat.mul_le_mul_right _ b1) hm
        have := (Nat.pow_le_pow_iff_right (by omega : 1 < 2)).1 this
        omega
      generalize hmore : 2 * 54 - m.log2 + ((-1074 + (E : Int) - ((2 * 54 - m.log2 : Nat) : Int)) % 2).toNat = more
      show bd (double.nearest false _ _) _
      have hnl : (m <<< more).log2 = m.log2 + more := by
        rw [Nat.shiftLeft_eq]
        refine (Nat.log2_eq_iff (by have := Nat.two_pow_pos more; exact Nat.mul_ne_zero h0 (by omega))).2 ⟨?_, ?_⟩
        · rw [Nat.pow_add]; exact Nat.mul_le_mul_right _ b1
        · rw [show m.log2 + more + 1 = (m.log2 + 1) + more by omega, Nat.pow_add]; exact Nat.mul_lt_mul_of_pos_right b2 (Nat.two_pow_pos _)
      rw [hnl]
      have hw := rootFrom_lt (m <<< more) ((m.log2 + more) / 2 + 1) 0
      generalize Datum.rootFrom (m <<< more) ((m.log2 + more) / 2 + 1) 0 = whole at *
      have hmag : 2 * whole + (whole * whole != m <<< more).toNat ≤ 2 ^ ((m.log2 + more) / 2 + 2) := by
        have : ∀ u : Bool, u.toNat ≤ 1 := fun u => by cases u <;> decide
        have := this (whole * whole != m <<< more)
        rw [Nat.pow_succ]; omega
      refine bd_nearest _ _ _ _ (by omega) (by omega) (1074 + more + 4) (by omega) (by omega) ?_
      refine Nat.le_trans (Nat.mul_le_mul_right _ hmag) ?_
      rw [← Nat.pow_add]
      refine Nat.pow_le_pow_right (by omega) ?_
      omega

theorem wide_bd {x : Nat} (h : x % 2147483648 < 2139095040) : bd (awide x) 128 := by
  have hN : isN .f32 x = false := by
    rw [isN_iff]; exact decide_eq_false (by show ¬ single.infRung < x % single.signWeight; rw [s_sign, s_inf]; omega)
  obtain ⟨_, _, h1, h2, h3, _⟩ := awide_rung x hN
  refine ⟨by omega, by omega, ?_⟩
  show _ ≤ 1151 * 4503599627370496
  by_cases a : x % 2147483648 < 8388608
  · by_cases b : x % 2147483648 = 0
    · rw [h2 b]; omega
    · have := (h3 a (by omega)).2; omega
  · rw [h1 (by omega) h]; omega
theorem inf_narOk {x : Nat} (h : isI .f64 x = true) : narOk x := by
  intro _
  rw [isI_iff] at h
  have hr := read_inf .f64 x (of_decide_eq_true h)
  unfold floatToFloatBits
  rw [if_neg (by decide), show FloatKind.decode .f64 x = .infinity _ from hr]
  rfl
/-- The root of a 32-bit number, narrowed. -/
def root32 (x : Nat) : Nat := anar (asq (awide x))
theorem root_narOk (x : Nat) : narOk (asq (awide x)) := by
  by_cases h : x % 2147483648 < 2139095040
  · rcases sq_bd (wide_bd h) with h1 | h1
    · exact narOk_nan h1
    · exact narOk_bd h1 (by omega)
  · cases hN : isN .f32 x
    · have hi : isI .f64 (awide x) = true := by
        obtain ⟨_, _, _, _, _, h4⟩ := awide_rung x hN
        rw [isN_iff] at hN
        have hN := of_decide_eq_false hN
        rw [show (FloatKind.format .f32).signWeight = 2147483648 from s_sign, show (FloatKind.format .f32).infRung = 2139095040 from s_inf] at hN
        rw [isI_iff, show (FloatKind.format .f64).signWeight = 9223372036854775808 from d_sign, show (FloatKind.format .f64).infRung = 9218868437227405312 from d_inf]
        exact decide_eq_true (h4 (by omega))
      have hr := read_inf .f64 (awide x) (of_decide_eq_true (isI_iff .f64 _ ▸ hi))
      have hs : double.sqrt (awide x) = ((Datum.infinity (awide x / (FloatKind.format .f64).signWeight % 2 == 1)).root 54).map double.write := by unfold Format.sqrt; rw [show double.read (awide x) = _ from hr]; rfl
      generalize (awide x / (FloatKind.format .f64).signWeight % 2 == 1) = s at *
      cases s
      · refine inf_narOk ?_
        unfold asq; rw [hs]
        show isI .f64 (double.write (.infinity false)) = true
        decide +kernel
      · refine narOk_nan ?_
        unfold asq; rw [hs]
        exact isN_nanOf _
    · refine narOk_nan ?_
      unfold asq
      rw [sqrt_none (by rw [isN_awide]; exact hN)]
      exact isN_nanOf _
theorem cn_root (x : Nat) (w1 w2 w3 : World) : cn .f32 (narR (sqR (wideR x w1) w2) w3) = root32 x := by
  have h : cn .f64 (sqR (wideR x w1) w2) = cn .f64 (asq (awide x)) := by
    rw [cn_sqR, cn_wideR, awide_cn, cn_asq]
  rw [cn_narR _ _ (narOk_cn h (root_narOk x)), h, anar_cn]; rfl
end Go.Proofs.Ytopgegciejmhaaa
