/-
  The angle of a point: signs, zeros, the tangent; as a plain function of words.
-/
import Derived.Test.YtogdolnmcfemfabCAng
import Derived.Test.YtogdolnmcfemfabCLgn
namespace Go.Proofs.Ytogdolnmcfemfab
open Ieee Go.RowKit
set_option linter.unusedVariables false

theorem lt_zero64 (y : Nat) (h : isN .f64 y = false) : ((FloatKind.format .f64).order y 0 == some Ordering.lt) = decide (y / 9223372036854775808 % 2 = 1 ∧ y % 9223372036854775808 ≠ 0) := by
  rw [order64 y 0 h (by decide +kernel)]
  simp only [compare, compareOfLessAndEq]
  have : y / 9223372036854775808 % 2 = 0 ∨ y / 9223372036854775808 % 2 = 1 := by omega
  generalize y / 9223372036854775808 % 2 = q at *
  generalize y % 9223372036854775808 = r at *
  rcases this with rfl | rfl
  · rw [decide_eq_false (by omega)]; simp; split <;> simp
  · by_cases h0 : r = 0
    · subst h0; rfl
    · rw [decide_eq_true ⟨rfl, h0⟩]; simp; omega
theorem eq_zero64 (y : Nat) (h : isN .f64 y = false) : ((FloatKind.format .f64).order y 0 == some Ordering.eq) = decide (y % 9223372036854775808 = 0) := by
  rw [order64 y 0 h (by decide +kernel)]
  simp only [compare, compareOfLessAndEq]
  have : y / 9223372036854775808 % 2 = 0 ∨ y / 9223372036854775808 % 2 = 1 := by omega
  generalize y / 9223372036854775808 % 2 = q at *
  generalize y % 9223372036854775808 = r at *
  rcases this with rfl | rfl <;> by_cases h0 : r = 0
  · subst h0; rfl
  · rw [decide_eq_false h0]; simp; split <;> simp
  · subst h0; rfl
  · rw [decide_eq_false h0]; simp; rw [if_pos (by omega)]; decide
theorem order32 (x y : Nat) (hx : isN .f32 x = false) (hy : isN .f32 y = false) :
    (FloatKind.format .f32).order x y = some (compare (if x / 2147483648 % 2 = 1 then -((x % 2147483648 : Nat) : Int) else ((x % 2147483648 : Nat) : Int)) (if y / 2147483648 % 2 = 1 then -((y % 2147483648 : Nat) : Int) else ((y % 2147483648 : Nat) : Int))) := by
  rw [order_all .f32 x y hx hy]
  unfold sr
  rw [show (FloatKind.format .f32).signWeight = 2147483648 from s_sign]
  simp only [beq_iff_eq]
theorem lt_zero32 (y : Nat) (h : isN .f32 y = false) : ((FloatKind.format .f32).order y 0 == some Ordering.lt) = decide (y / 2147483648 % 2 = 1 ∧ y % 2147483648 ≠ 0) := by
  rw [order32 y 0 h (by decide +kernel)]
  simp only [compare, compareOfLessAndEq]
  have : y / 2147483648 % 2 = 0 ∨ y / 2147483648 % 2 = 1 := by omega
  generalize y / 2147483648 % 2 = q at *
  generalize y % 2147483648 = r at *
  rcases this with rfl | rfl
  · rw [decide_eq_false (by omega)]; simp; split <;> simp
  · by_cases h0 : r = 0
    · subst h0; rfl
    · rw [decide_eq_true ⟨rfl, h0⟩]; simp; omega
theorem eq_zero32 (y : Nat) (h : isN .f32 y = false) : ((FloatKind.format .f32).order y 0 == some Ordering.eq) = decide (y % 2147483648 = 0) := by
  rw [order32 y 0 h (by decide +kernel)]
  simp only [compare, compareOfLessAndEq]
  have : y / 2147483648 % 2 = 0 ∨ y / 2147483648 % 2 = 1 := by omega
  generalize y / 2147483648 % 2 = q at *
  generalize y % 2147483648 = r at *
  rcases this with rfl | rfl <;> by_cases h0 : r = 0
  · subst h0; rfl
  · rw [decide_eq_false h0]; simp; split <;> simp
  · subst h0; rfl
  · rw [decide_eq_false h0]; simp; rw [if_pos (by omega)]; decide
/-- A finite 32-bit number, as a 64-bit word. -/
theorem fin_wide {x : Nat} (hx : x < 4294967296) (hf : fin .f32 x = true) : isN .f32 x = false ∧ awide x / 9223372036854775808 % 2 = x / 2147483648 % 2 ∧ (awide x % 9223372036854775808 = 0 ↔ x % 2147483648 = 0) ∧
    (awide x % 9223372036854775808 = 0 ∨ rng (awide x % 9223372036854775808)) := by
  have hN : isN .f32 x = false := by
    unfold fin at hf
    cases h2 : isN .f32 x
    · rfl
    · rw [h2] at hf; cases hf
  obtain ⟨h0, h1, h2, h3, h4, h5⟩ := awide_rung x hN
  rw [fin_f32] at hf
  have hr := of_decide_eq_true hf
  have hsg : awide x / 9223372036854775808 % 2 = x / 2147483648 % 2 := by
    have a1 : awide x / 9223372036854775808 % 2 < 2 := Nat.mod_lt _ (by omega)
    have a2 : x / 2147483648 % 2 < 2 := Nat.mod_lt _ (by omega)
    generalize awide x / 9223372036854775808 % 2 = a at *
    generalize x / 2147483648 % 2 = b at *
    by_cases c : a = 1
    · rw [c] at h0; have := eq_of_beq h0.symm; omega
    · have e : (a == 1) = false := beq_eq_false_iff_ne.2 c
      rw [e] at h0
      have := beq_eq_false_iff_ne.1 h0.symm
      omega
  refine ⟨hN, hsg, ?_, ?_⟩
  · constructor
    · intro h
      by_cases a : x % 2147483648 < 8388608
      · by_cases b : x % 2147483648 = 0
        · exact b
        · have := (h4 a (by omega)).1; omega
      · have := h2 (by omega) hr; omega
    · exact h3
  · by_cases b : x % 2147483648 = 0
    · exact .inl (h3 b)
    · right
      rcases single_read x with ⟨s, m, p, hrd, hm, hp, hp2, _⟩ | ⟨s, hrd⟩ | ⟨s, t, hrd⟩
      · have haw : awide x = double.nearest s m p := by unfold awide; rw [hN, if_neg (by simp), hrd]; rfl
        have hm0 : 0 < m := by
          rcases Nat.eq_zero_or_pos m with h | h
          · exfalso
            subst h
            have e0 : double.nearest s 0 p = double.word s 0 := by unfold Format.nearest; rw [if_pos rfl]
            rw [e0] at haw
            obtain ⟨a, _, _⟩ := word_low s (r := 0) (by omega)
            rw [haw] at h2 h4
            by_cases c : x % 2147483648 < 8388608
            · have := (h4 c (by omega)).1; omega
            · have := h2 (by omega) hr; omega
          · exact h
        have hg := nearest_ge s m p (-149) hm0 (by omega) (by omega) (by omega)
        rw [← haw] at hg
        have e : ((-149 : Int) + 1023).toNat * 4503599627370496 = 3936146074321813504 := by decide
        rw [e] at hg
        have hu : awide x % 9223372036854775808 < 5183643171103440896 := by
          clear hg haw hrd e
          by_cases a : x % 2147483648 < 8388608
          · exact Nat.lt_trans (h4 a (by omega)).2 (by decide)
          · have h6 := h2 (by omega) hr
            clear h2 h3 h4 h5
            omega
        exact ⟨hg, hu⟩
      · exfalso
        unfold Format.read at hrd
        simp only [s_sign, s_binade, s_inf] at hrd
        by_cases a : x % 2147483648 < 8388608
        · rw [if_pos a] at hrd; cases hrd
        · rw [if_neg a, if_pos hr] at hrd; cases hrd
      · exfalso
        unfold isN at hN; rw [show (FloatKind.format .f32) = single from rfl, hrd] at hN; cases hN

/-- The tangent, or its inverse. -/
def tan0 (A B : Nat) : Nat := if B < A then aop .quo .f64 B A else aop .quo .f64 A B
theorem tan_bd {a b : Nat} (ha : a = 0 ∨ rng a) (hb : rng b) (h : a ≤ b) : bd (aop .quo .f64 a b) 1 := by
  obtain ⟨h1, h2⟩ := hb
  obtain ⟨e, he⟩ : ∃ e : Int, e = (b / 4503599627370496 : Nat) - 1023 := ⟨_, rfl⟩
  have hB : lb b e := by
    refine ⟨by omega, by omega, ?_, by omega⟩
    rw [show (e + 1023).toNat = b / 4503599627370496 by omega]; omega
  have hA : bd a (e + 1) := by
    refine ⟨by omega, by omega, ?_⟩
    rw [show (e + 1 + 1023).toNat = b / 4503599627370496 + 1 by omega]; omega
  have := bd_quo hA hB (by omega) (by omega)
  rw [show e + 1 - e = 1 by omega] at this
  exact this
theorem tan0_bd {A B : Nat} (hA : A = 0 ∨ rng A) (hB : B = 0 ∨ rng B) (h0 : ¬ (A = 0 ∧ B = 0)) : bd (tan0 A B) 1 := by
  unfold tan0
  split
  · rename_i h
    rcases hA with h1 | h1
    · omega
    · exact tan_bd hB h1 (by omega)
  · rename_i h
    rcases hB with h1 | h1
    · omega
    · exact tan_bd hA h1 (by omega)
def an1 (A B : Nat) : Nat := if B < A then aop .sub .f64 quar64 (sA (tan0 A B)) else sA (tan0 A B)
def an2 (A B : Nat) (xn : Bool) : Nat := if xn then aop .sub .f64 half64 (an1 A B) else an1 A B
/-- The angle. -/
def an3 (A B : Nat) (xn yn : Bool) : Nat := if yn then Op.negFloat .f64 (an2 A B xn) else an2 A B xn
theorem an1s_bd {t : Nat} (h : bd t 1) : bd (aop .sub .f64 quar64 (sA t)) 28 := bd_sub bd_quar (sA_bd h) (by omega) (by omega) (by omega)
theorem an1_bd {A B : Nat} (h : bd (tan0 A B) 1) : bd (an1 A B) 28 := by
  unfold an1
  split
  · exact an1s_bd h
  · exact bd_mono (sA_bd h) (by omega) (by omega)
theorem an2s_bd {A B : Nat} (h : bd (tan0 A B) 1) : bd (aop .sub .f64 half64 (an1 A B)) 29 := bd_sub bd_half (an1_bd h) (by omega) (by omega) (by omega)
theorem an2_bd {A B : Nat} {xn : Bool} (h : bd (tan0 A B) 1) : bd (an2 A B xn) 29 := by
  unfold an2
  split
  · exact an2s_bd h
  · exact bd_mono (an1_bd h) (by omega) (by omega)
theorem an3_bd {A B : Nat} {xn yn : Bool} (h : bd (tan0 A B) 1) : bd (an3 A B xn yn) 29 := by
  unfold an3
  split
  · exact neg_bd (an2_bd h)
  · exact an2_bd h
end Go.Proofs.Ytogdolnmcfemfab
