/-
  The angle of a point, as a plain function of words, and how great what comes on the way can be.
-/
import Derived.Test.YtogdolnmcfemfabFll
namespace Go.Proofs.Ytogdolnmcfemfab
open Ieee
set_option linter.unusedVariables false
set_option linter.unusedSimpArgs false

/-- Without a sign. -/
def nn (x : Nat) : Prop := x < 9223372036854775808
theorem near_nn (m : Nat) (p : Int) : nn (double.nearest false m p) := by
  have key : ∃ R, double.nearest false m p = double.word false R ∧ R ≤ 9218868437227405312 := by
    unfold Format.nearest
    split
    · exact ⟨0, rfl, by omega⟩
    · simp only [d_inf]; exact ⟨_, rfl, Nat.min_le_right ..⟩
  obtain ⟨R, h1, h2⟩ := key
  rw [h1]
  show R < _
  omega
theorem nn_read {x : Nat} {e : Int} (h : nn x) (hb : bd x e) : ∃ m, ∃ E : Nat, double.read x = .number false m (-1074 + E) ∧ m * 2 ^ E ≤ 2 ^ (e + 1074).toNat := by
  obtain ⟨s, m, E, h1, h2⟩ := bd_read hb
  obtain ⟨s', m', E', g1, g2, g3⟩ := read_mag double x (bd_fin hb)
  have hs : s' = false := by
    unfold nn at h
    rw [g3, d_sign, Nat.div_eq_of_lt h]; rfl
  rw [h1] at g1
  injection g1 with a b c
  subst a
  subst hs
  exact ⟨m, E, h1, h2⟩
theorem sq_nn {t : Nat} {e : Int} (h : bd t e) : nn (aop .mul .f64 t t) := by
  obtain ⟨s, m, E, hr, hm⟩ := bd_read h
  have hf : floatBits .mul .f64 t t = some (double.nearest (s ^^ s) (m * m) (-1074 + E + (-1074 + E))) := by
    show double.mul t t = _
    unfold Format.mul; rw [hr]; rfl
  rw [aop_some hf, Bool.xor_self]
  exact near_nn _ _
theorem one_add {z : Nat} {e : Int} (h : nn z) (hb : bd z e) (he : 0 ≤ e) (he2 : e ≤ 1000) : nn (aop .add .f64 one64 z) ∧ bd (aop .add .f64 one64 z) (e + 1) ∧ lb (aop .add .f64 one64 z) 0 := by
  have hB : bd (aop .add .f64 one64 z) (e + 1) := bd_add bd_one hb (by omega) (by omega) (by omega)
  obtain ⟨m, E, hr, hm⟩ := nn_read h hb
  have hfi := bd_fin hB
  rw [d_sign, d_inf] at hfi
  have hd : floatBits .add .f64 one64 z = (((Datum.number false 4503599627370496 (-52)).sum (.number false m (-1074 + (E : Int)))).map double.write) := by
    show double.add _ z = _
    unfold Format.add; rw [hr, one_read]
  simp only [Datum.sum, Option.map_some, write_num] at hd
  rw [aop_some hd] at hB hfi ⊢
  generalize hbase : min (-52) (-1074 + (E : Int)) = base at *
  rw [signed_mag, signed_mag] at hB hfi ⊢
  simp only [if_false, Bool.false_eq_true] at hB hfi ⊢
  have h3 : 2 ^ (52 + (-52 - base).toNat) ≤ ((4503599627370496 * 2 ^ (-52 - base).toNat : Nat) + (m * 2 ^ (-1074 + (E : Int) - base).toNat : Nat) : Int).natAbs := by
    rw [show (4503599627370496 : Nat) = 2 ^ 52 by decide, ← Nat.pow_add]; omega
  have hp := Nat.two_pow_pos (52 + (-52 - base).toNat)
  have hneg : (if ((4503599627370496 * 2 ^ (-52 - base).toNat : Nat) : Int) + (m * 2 ^ (-1074 + (E : Int) - base).toNat : Nat) = 0 then (false && false) else decide (((4503599627370496 * 2 ^ (-52 - base).toNat : Nat) : Int) + (m * 2 ^ (-1074 + (E : Int) - base).toNat : Nat) < 0)) = false := by
    split
    · rfl
    · exact decide_eq_false (by omega)
  rw [hneg] at hB hfi ⊢
  have h4 := log2_ge_of_le h3
  exact ⟨near_nn _ _, hB, by omega, by omega, nearest_ge _ _ _ _ (by omega) (by omega) (by omega) (by omega), hfi⟩
theorem root_nn {z : Nat} {e : Int} (h : nn z) (hb : bd z e) : nn (asq z) ∧ isN .f64 (asq z) = false := by
  obtain ⟨m, E, hr, hm⟩ := nn_read h hb
  have hs : double.sqrt z = ((Datum.number false m (-1074 + (E : Int))).root 54).map double.write := by unfold Format.sqrt; rw [hr]; rfl
  unfold asq
  rw [hs]
  simp only [Datum.root]
  by_cases h0 : m = 0
  · rw [if_pos h0]; exact ⟨near_nn _ _, nearest_nan _ _ _ _⟩
  · rw [if_neg h0, if_neg (by simp)]; exact ⟨near_nn _ _, nearest_nan _ _ _ _⟩
theorem root_bd {z : Nat} {e : Int} (h : nn z) (hb : bd z e) : bd (asq z) (e / 2 + 2) := by
  rcases sq_bd hb with h1 | h1
  · rw [(root_nn h hb).2] at h1; cases h1
  · exact h1

/-- Half of the angle, by its tangent. -/
def hA (t : Nat) : Nat := aop .add .f64 one64 (aop .mul .f64 t t)
def hB (t : Nat) : Nat := aop .add .f64 one64 (asq (hA t))
def hV (t : Nat) : Nat := aop .quo .f64 t (hB t)
theorem hM_bd {t : Nat} (h : bd t 1) : bd (aop .mul .f64 t t) 2 := bd_mul h h (by omega) (by omega)
theorem hA_all {t : Nat} (h : bd t 1) : nn (hA t) ∧ bd (hA t) 3 ∧ lb (hA t) 0 := one_add (sq_nn h) (hM_bd h) (by omega) (by omega)
theorem hS_bd {t : Nat} (h : bd t 1) : bd (asq (hA t)) 3 := root_bd (hA_all h).1 (hA_all h).2.1
theorem hB_all {t : Nat} (h : bd t 1) : nn (hB t) ∧ bd (hB t) 4 ∧ lb (hB t) 0 := one_add (root_nn (hA_all h).1 (hA_all h).2.1).1 (hS_bd h) (by omega) (by omega)
theorem hV_bd {t : Nat} (h : bd t 1) : bd (hV t) 1 := bd_quo h (hB_all h).2.2 (by omega) (by omega)
def hTo (t : Nat) : Nat → Nat
  | 0 => t
  | i + 1 => hV (hTo t i)
theorem hTo_bd {t : Nat} (h : bd t 1) : ∀ i, bd (hTo t i) 1
  | 0 => h
  | i + 1 => hV_bd (hTo_bd h i)
theorem sqrt_some {z : Nat} (h : isN .f64 (asq z) = false) : double.sqrt z = some (asq z) := by
  unfold asq at *
  cases h1 : double.sqrt z with
  | some r => rfl
  | none => rw [h1] at h; rw [show (none : Option Nat).getD (nanOf .f64) = nanOf .f64 from rfl, isN_nanOf] at h; cases h
theorem sqR_some {z : Nat} (h : isN .f64 (asq z) = false) (w : World) : sqR z w = asq z := by unfold sqR; rw [sqrt_some h]; rfl
theorem sqN_some {z : Nat} (h : isN .f64 (asq z) = false) : sqN z = 0 := by unfold sqN; rw [sqrt_some h]; rfl

/-- 15 - 2 i. -/
def k15 (i : Nat) : Nat := floatOfInt .f64 (15 - 2 * (i : Int))
def anTo (u : Nat) : Nat → Nat
  | 0 => 0
  | i + 1 => aop .sub .f64 (aop .quo .f64 one64 (k15 i)) (aop .mul .f64 u (anTo u i))
theorem k15_lb : ∀ i, i < 8 → lb (k15 i) 0 := by unfold lb k15; decide +kernel
theorem k15_inv {i : Nat} (h : i < 8) : bd (aop .quo .f64 one64 (k15 i)) 0 := bd_quo bd_one (k15_lb i h) (by omega) (by omega)
theorem an_mul {u : Nat} {i : Nat} (hu : bd u 2) (hi : i ≤ 8) (h : bd (anTo u i) (1 + 3 * i)) : bd (aop .mul .f64 u (anTo u i)) (2 + (1 + 3 * i)) := bd_mul hu h (by omega) (by omega)
theorem an_step {u : Nat} {i : Nat} (hu : bd u 2) (hi : i < 8) (h : bd (anTo u i) (1 + 3 * i)) : bd (anTo u (i + 1)) (1 + 3 * (i + 1 : Nat)) := by
  unfold anTo
  exact bd_sub (k15_inv hi) (an_mul hu (by omega) h) (by omega) (by omega) (by omega)
theorem an_bd {u : Nat} (hu : bd u 2) : ∀ i, i ≤ 8 → bd (anTo u i) (1 + 3 * i)
  | 0, _ => zero_bd
  | i + 1, h => an_step hu (by omega) (an_bd hu i (by omega))
theorem k15_sub : ∀ i, i < 8 → floatBits .sub .f64 (k15 i) 4611686018427387904 = some (k15 (i + 1)) := by unfold k15; decide +kernel
theorem k15_ge : ∀ i, i < 9 → (((FloatKind.format .f64).order (k15 i) 4607182418800017408 == some Ordering.gt) || ((FloatKind.format .f64).order (k15 i) 4607182418800017408 == some Ordering.eq)) = decide (i < 8) := by unfold k15; decide +kernel
theorem k15_lt : ∀ i, i < 8 → fltM (.float .f64 (k15 (i + 1))) < fltM (.float .f64 (k15 i)) := by unfold k15 fltM; decide +kernel
theorem k15_0 : k15 0 = 4624633867356078080 := by unfold k15; decide +kernel
def eight64 : Nat := 4620693217682128896
theorem eight_bd : bd eight64 3 := by unfold bd eight64; decide +kernel
theorem tau_lb : lb tau64 2 := by unfold lb tau64; decide +kernel
def sT (t : Nat) : Nat := hTo t 3
def sU (t : Nat) : Nat := aop .mul .f64 (sT t) (sT t)
def sP (t : Nat) : Nat := aop .mul .f64 (sT t) (anTo (sU t) 8)
def sE (t : Nat) : Nat := aop .mul .f64 eight64 (sP t)
/-- The angle with the tangent t. -/
def sA (t : Nat) : Nat := aop .quo .f64 (sE t) tau64
theorem sU_bd {t : Nat} (h : bd t 1) : bd (sU t) 2 := bd_mul (hTo_bd h 3) (hTo_bd h 3) (by omega) (by omega)
theorem sP_bd {t : Nat} (h : bd t 1) : bd (sP t) 26 := bd_mul (hTo_bd h 3) (an_bd (sU_bd h) 8 (by omega)) (by omega) (by omega)
theorem sE_bd {t : Nat} (h : bd t 1) : bd (sE t) 29 := bd_mul eight_bd (sP_bd h) (by omega) (by omega)
theorem sA_bd {t : Nat} (h : bd t 1) : bd (sA t) 27 := bd_quo (sE_bd h) tau_lb (by omega) (by omega)
end Go.Proofs.Ytogdolnmcfemfab
