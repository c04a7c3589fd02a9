/-
  What is not finite stays so: sums, differences, products, quotients' numerators, roots.
-/
import Derived.Test.YtopgegciejmhaaaCFin
import Derived.Test.YtopgegciejmhaaaFle
namespace Go.Proofs.Ytopgegciejmhaaa
open Ieee Go.RowKit
set_option linter.unusedVariables false

theorem fin_num {k : FloatKind} {x : Nat} {s : Bool} {m : Nat} {p : Int} (h : k.format.read x = .number s m p) : fin k x = true := by
  unfold fin isN isI; rw [h]; rfl
theorem fin_nanOf (k : FloatKind) : fin k (nanOf k) = false := by unfold fin; rw [isN_nanOf]; rfl
theorem fin_inf (k : FloatKind) (s : Bool) : fin k (k.format.write (.infinity s)) = false := by cases k <;> cases s <;> decide +kernel
theorem fin_add {k : FloatKind} {a b : Nat} (h : fin k (aop .add k a b) = true) : fin k a = true ∧ fin k b = true := by
  unfold aop at h
  cases hf : floatBits .add k a b with
  | none => rw [hf] at h; exact absurd h (by show ¬ fin k (nanOf k) = true; rw [fin_nanOf]; simp)
  | some r =>
    rw [hf] at h
    have h : fin k r = true := h
    unfold floatBits at hf
    obtain ⟨d, h1, rfl⟩ := Option.map_eq_some_iff.1 hf
    cases ha : k.format.read a <;> cases hb : k.format.read b <;> rw [ha, hb] at h1 <;> simp only [Datum.sum] at h1
    all_goals first
      | exact ⟨fin_num ha, fin_num hb⟩
      | (exfalso; first | (cases h1; rw [fin_inf] at h; cases h; done) | (split at h1 <;> first | (cases h1; done) | (cases h1; rw [fin_inf] at h; cases h)) | (cases h1; done))
theorem fin_sub {k : FloatKind} {a b : Nat} (h : fin k (aop .sub k a b) = true) : fin k a = true ∧ fin k b = true := by
  unfold aop at h
  cases hf : floatBits .sub k a b with
  | none => rw [hf] at h; exact absurd h (by show ¬ fin k (nanOf k) = true; rw [fin_nanOf]; simp)
  | some r =>
    rw [hf] at h
    have h : fin k r = true := h
    unfold floatBits at hf
    obtain ⟨d, h1, rfl⟩ := Option.map_eq_some_iff.1 hf
    cases ha : k.format.read a <;> cases hb : k.format.read b <;> rw [ha, hb] at h1 <;> simp only [Datum.opposite, Datum.sum] at h1
    all_goals first
      | exact ⟨fin_num ha, fin_num hb⟩
      | (exfalso; first | (cases h1; rw [fin_inf] at h; cases h; done) | (split at h1 <;> first | (cases h1; done) | (cases h1; rw [fin_inf] at h; cases h)) | (cases h1; done))
theorem fin_mul {k : FloatKind} {a b : Nat} (h : fin k (aop .mul k a b) = true) : fin k a = true ∧ fin k b = true := by
  unfold aop at h
  cases hf : floatBits .mul k a b with
  | none => rw [hf] at h; exact absurd h (by show ¬ fin k (nanOf k) = true; rw [fin_nanOf]; simp)
  | some r =>
    rw [hf] at h
    have h : fin k r = true := h
    unfold floatBits at hf
    obtain ⟨d, h1, rfl⟩ := Option.map_eq_some_iff.1 hf
    cases ha : k.format.read a <;> cases hb : k.format.read b <;> rw [ha, hb] at h1 <;> simp only [Datum.product] at h1
    all_goals first
      | exact ⟨fin_num ha, fin_num hb⟩
      | (exfalso; first | (cases h1; rw [fin_inf] at h; cases h; done) | (split at h1 <;> first | (cases h1; done) | (cases h1; rw [fin_inf] at h; cases h)) | (cases h1; done))
theorem fin_quo {k : FloatKind} {a b : Nat} (h : fin k (aop .quo k a b) = true) : fin k a = true := by
  unfold aop at h
  cases hf : floatBits .quo k a b with
  | none => rw [hf] at h; exact absurd h (by show ¬ fin k (nanOf k) = true; rw [fin_nanOf]; simp)
  | some r =>
    rw [hf] at h
    have h : fin k r = true := h
    unfold floatBits at hf
    obtain ⟨d, h1, rfl⟩ := Option.map_eq_some_iff.1 hf
    cases ha : k.format.read a <;> cases hb : k.format.read b <;> rw [ha, hb] at h1 <;> simp only [Datum.quotient] at h1
    all_goals first
      | exact fin_num ha
      | (exfalso; first | (cases h1; rw [fin_inf] at h; cases h; done) | (split at h1 <;> first | (cases h1; done) | (cases h1; rw [fin_inf] at h; cases h)) | (cases h1; done))
theorem fin_root {x : Nat} (h : fin .f32 (root32 x) = true) : fin .f32 x = true := by
  rw [fin_f32 x]
  refine decide_eq_true ?_
  refine Classical.byContradiction fun hx => ?_
  cases hN : isN .f32 x
  · have hi : isI .f64 (awide x) = true := by
      obtain ⟨_, _, _, _, _, h4⟩ := awide_rung x hN
      rw [isN_iff] at hN
      have hN := of_decide_eq_false hN
      rw [show (FloatKind.format .f32).signWeight = 2147483648 from s_sign, show (FloatKind.format .f32).infRung = 2139095040 from s_inf] at hN
      rw [isI_iff, show (FloatKind.format .f64).signWeight = 9223372036854775808 from d_sign, show (FloatKind.format .f64).infRung = 9218868437227405312 from d_inf]
      exact decide_eq_true (h4 (by omega))
    have hr := read_inf .f64 (awide x) (of_decide_eq_true (isI_iff .f64 _ ▸ hi))
    have hs : double.sqrt (awide x) = ((Datum.infinity (awide x / (FloatKind.format .f64).signWeight % 2 == 1)).root 54).map double.write := by unfold Format.sqrt; rw [show double.read (awide x) = _ from hr]; rfl
    generalize (awide x / (FloatKind.format .f64).signWeight % 2 == 1) = s at *
    unfold root32 asq at h
    rw [hs] at h
    cases s
    · exact absurd h (by show ¬ fin .f32 (anar (double.write (.infinity false))) = true; decide +kernel)
    · exact absurd h (by show ¬ fin .f32 (anar (nanOf .f64)) = true; decide +kernel)
  · unfold root32 asq at h
    rw [sqrt_none (by rw [isN_awide]; exact hN)] at h
    exact absurd h (by show ¬ fin .f32 (anar (nanOf .f64)) = true; decide +kernel)
end Go.Proofs.Ytopgegciejmhaaa
