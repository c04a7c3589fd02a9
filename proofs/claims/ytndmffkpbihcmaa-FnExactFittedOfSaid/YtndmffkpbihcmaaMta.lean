/-
  'meanTold' of the program, over any closure: the mean of what places tell.
-/
import Derived.Test.YtndmffkpbihcmaaCBox
import Derived.Test.YtndmffkpbihcmaaCMea
import Derived.Test.YtndmffkpbihcmaaCPos
namespace Go.Proofs.Ytndmffkpbihcmaa
open Ieee Go.RowKit
set_option linter.unusedVariables false

theorem serB_congr {rs xs : List Nat} (h : cnl rs = cnl xs) : serB rs = serB xs := by
  have hl : rs.length = xs.length := by rw [← cnl_len, h, cnl_len]
  unfold serB; rw [hl, fins_congr h]
theorem mean32_congr {rs xs : List Nat} (h : cnl rs = cnl xs) : mean32 rs = mean32 xs := by
  have hl : rs.length = xs.length := by rw [← cnl_len, h, cnl_len]
  unfold mean32; rw [hl, sum32_congr h]
theorem meanB_congr {rs xs : List Nat} (h : cnl rs = cnl xs) : meanB rs = meanB xs := by unfold meanB; rw [serB_congr h, mean32_congr h]
theorem meanR_congr {rs xs : List Nat} (h : cnl rs = cnl xs) : meanR rs = meanR xs := by unfold meanR; rw [meanB_congr h, mean32_congr h]
theorem sum32_all {zs : List Nat} (h : fin .f32 (sum32 zs) = true) : ∀ k, k ≤ zs.length → fin .f32 (sum32 (zs.take k)) = true ∧ ∀ j, j < zs.length → k ≤ j → fin .f32 (zs.getD j 0) = true := by
  intro k hk
  obtain ⟨n, hn⟩ : ∃ n, n = zs.length - k := ⟨_, rfl⟩
  induction n generalizing k with
  | zero =>
    have : k = zs.length := by omega
    subst this
    exact ⟨by rw [List.take_of_length_le (Nat.le_refl _)]; exact h, fun j hj h2 => by omega⟩
  | succ n ih =>
    obtain ⟨h1, h2⟩ := ih (k + 1) (by omega) (by omega)
    rw [sum32_snoc (by omega)] at h1
    have h3 := fin_add h1
    refine ⟨h3.1, fun j hj hkj => ?_⟩
    rcases Nat.lt_or_ge k j with h4 | h4
    · exact h2 j hj (by omega)
    · obtain rfl : j = k := by omega
      exact (fin_congr (cn_cn ..)).symm.trans h3.2
theorem fins_of_sum {zs : List Nat} (h : fin .f32 (sum32 zs) = true) : fins zs = true := by
  unfold fins
  rw [List.all_eq_true]
  intro x hx
  obtain ⟨j, hj, rfl⟩ := List.getElem_of_mem hx
  have := (sum32_all h 0 (Nat.zero_le _)).2 j hj (Nat.zero_le _)
  simpa [List.getD, hj] using this
theorem fins_of_mean {zs : List Nat} (h : fin .f32 (mean32 zs) = true) : fins zs = true := fins_of_sum (fin_quo h)
/-- The mean of what is told, and whether it is finite. -/
def mtB (xs : List Nat) : Bool := fin .f32 (mean32 xs)
def mtV (xs : List Nat) : Nat := if mtB xs then mean32 xs else 0
theorem mt_is {xs : List Nat} (h1 : 1 ≤ xs.length) (h2 : xs.length ≤ 96) : meanB (lstR xs) = mtB xs ∧ meanR (lstR xs) = mtV xs := by
  have key : meanB (lstR xs) = mtB xs := by
    cases hf : fins xs
    · have e : lstR xs = [] := by unfold lstR; rw [hf]; rfl
      rw [e, show meanB [] = false by simp [meanB, serB]]
      exact (Bool.eq_false_iff.2 fun h => by rw [fins_of_mean h] at hf; cases hf).symm
    · have e : lstR xs = xs := by unfold lstR; rw [hf]; rfl
      rw [e]
      unfold meanB mtB serB
      rw [hf, decide_eq_true ⟨h1, h2⟩, Bool.and_true, Bool.true_and]
  refine ⟨key, ?_⟩
  unfold meanR mtV
  rw [key]
  cases hm : mtB xs
  · rw [if_neg (by simp), if_neg (by simp)]
  · have hf := fins_of_mean (zs := xs) hm
    have e : lstR xs = xs := by unfold lstR; rw [hf]; rfl
    rw [e]
/-- A number and a bool, behind what keeps all below a bound. -/
def RetFBk (v : Nat) (b : Bool) (B0 : Nat) (w : World) (e : Ending) (w' : World) : Prop := ∃ r, cn .f32 r = v ∧ e = .returned (.tuple #[.float .f32 r, .bool b]) ∧ Below B0 w w'
end Go.Proofs.Ytndmffkpbihcmaa
