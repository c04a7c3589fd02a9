/-
  Quarters of turns: a quarter is taken away exactly, and each time the word goes down.
-/
import Derived.Test.YtogdolnmcfemfabFll
namespace Go.Proofs.Ytogdolnmcfemfab
open Ieee
set_option linter.unusedVariables false
set_option linter.unusedSimpArgs false

theorem quar_read : double.read quar64 = .number false 4503599627370496 (-54) := by unfold quar64; decide +kernel
theorem quar_step (f : Nat) (h1 : quar64 ≤ f) (h2 : f < 4616189618054758400) : ∃ r, floatBits .sub .f64 f quar64 = some r ∧ r < f := by
  unfold quar64 at h1
  have hr := normal_read (r := f) (by omega) (by omega)
  obtain ⟨k, hk⟩ : ∃ k : Nat, k = f / 4503599627370496 - 1021 := ⟨_, rfl⟩
  have hk3 : k ≤ 3 := by omega
  have hP : (-1074 + (f / 4503599627370496 - 1 : Nat) : Int) = -54 + (k : Nat) := by omega
  rw [hP] at hr
  have hd : floatBits .sub .f64 f quar64 = (((Datum.number false (4503599627370496 + f % 4503599627370496) (-54 + (k : Int))).sum (.number true 4503599627370496 (-54))).map double.write) := by
    show double.sub f quar64 = _
    unfold Format.sub; rw [hr, quar_read]; rfl
  simp only [Datum.sum, Option.map_some, write_num] at hd
  rw [hd]
  refine ⟨_, rfl, ?_⟩
  rw [show min (-54 + (k : Int)) (-54 : Int) = -54 by omega, show (-54 + (k : Int) - -54).toNat = k by omega, show ((-54 : Int) - -54).toNat = 0 by omega, signed_mag, signed_mag]
  simp only [if_true, if_false, Bool.false_eq_true, Nat.pow_zero, Nat.mul_one, Bool.false_and]
  obtain ⟨D, hD⟩ : ∃ D : Nat, (D : Int) = (((4503599627370496 + f % 4503599627370496) * 2 ^ k : Nat) : Int) - (4503599627370496 : Nat) := by
    refine ⟨(4503599627370496 + f % 4503599627370496) * 2 ^ k - 4503599627370496, ?_⟩
    have h3 : 1 ≤ 2 ^ k := Nat.two_pow_pos k
    have h4 : 4503599627370496 + f % 4503599627370496 ≤ (4503599627370496 + f % 4503599627370496) * 2 ^ k := Nat.le_mul_of_pos_right _ (by omega)
    omega
  have hsum : (((4503599627370496 + f % 4503599627370496) * 2 ^ k : Nat) : Int) + -((4503599627370496 : Nat) : Int) = (D : Int) := by omega
  rw [hsum, Int.natAbs_natCast]
  have hsg : (if (D : Int) = 0 then false else decide ((D : Int) < 0)) = false := by split <;> first | rfl | exact decide_eq_false (by omega)
  rw [hsg]
  -- D is a multiple of 2 ^ k
  obtain ⟨G, hG⟩ : ∃ G : Nat, D = G * 2 ^ k ∧ G < 4503599627370496 + f % 4503599627370496 := by
    have h5 : k = 0 ∨ k = 1 ∨ k = 2 ∨ k = 3 := by omega
    rcases h5 with e | e | e | e
    · exact ⟨4503599627370496 + f % 4503599627370496 - 4503599627370496, by subst e; rw [Nat.pow_zero] at *; omega, by omega⟩
    · exact ⟨4503599627370496 + f % 4503599627370496 - 2251799813685248, by rw [e] at hD ⊢; omega, by omega⟩
    · exact ⟨4503599627370496 + f % 4503599627370496 - 1125899906842624, by rw [e] at hD ⊢; omega, by omega⟩
    · exact ⟨4503599627370496 + f % 4503599627370496 - 562949953421312, by rw [e] at hD ⊢; omega, by omega⟩
  obtain ⟨hG, hGM⟩ := hG
  rcases Nat.eq_zero_or_pos G with h0 | h0
  · rw [hG, h0, Nat.zero_mul]
    have : double.nearest false 0 (-54) = 0 := by unfold Format.nearest; rw [if_pos rfl]; rfl
    rw [this]; omega
  · rw [hG, nearest_scale double false G k (-54) h0]
    have hL : G.log2 ≤ 52 := log2_le_of_lt h0 (by omega)
    obtain ⟨e, k1, k2⟩ := wide_nearest false G (-54 + (k : Int)) h0 hL (by omega) (by omega)
    rw [e]
    show (_ : Int).toNat * 4503599627370496 + G * 2 ^ (52 - G.log2) < f
    by_cases h52 : G.log2 = 52
    · rw [h52]
      rw [show (-54 + (k : Int) + ((52 : Nat) : Int) + 1022).toNat = k + 1020 by omega, show 52 - 52 = 0 by omega, Nat.pow_zero, Nat.mul_one]
      omega
    · have h6 : (-54 + (k : Int) + (G.log2 : Int) + 1022).toNat ≤ k + 1019 := by omega
      have h7 := Nat.mul_le_mul_right 4503599627370496 h6
      omega

/-- The word after k quarters have been taken away. -/
def qI (f : Nat) : Nat → Nat
  | 0 => f
  | k + 1 => aop .sub .f64 (qI f k) quar64
theorem aop_lt64 (op : BinOp) (x y : Nat) : aop op .f64 x y < 18446744073709551616 := by
  unfold aop
  cases h : floatBits op .f64 x y with
  | none => show nanOf .f64 < _; decide
  | some r =>
    have := floatBits_wf h
    exact of_decide_eq_true this
/-- A word that a quarter can be taken from. -/
theorem ge_quar {f : Nat} (hb : bd f 1) (hl : f < 18446744073709551616) (h : ge64 f quar64 = true) : quar64 ≤ f ∧ f < 4616189618054758400 := by
  have hN := bd_nan hb
  obtain ⟨_, _, hb⟩ := hb
  have hb : f % 9223372036854775808 ≤ 1024 * 4503599627370496 := hb
  unfold ge64 at h
  have ho := order_all .f64 f quar64 hN (by decide +kernel)
  rw [show (FloatKind.format .f64) = double from rfl] at ho
  rw [ho] at h
  have hs2 : sr double quar64 = (quar64 : Int) := by unfold sr quar64; decide +kernel
  rw [hs2] at h
  have hge : (quar64 : Int) ≤ sr double f := by
    by_cases hc : sr double f < (quar64 : Int)
    · simp only [compare, compareOfLessAndEq] at h
      rw [if_pos hc] at h
      cases h
    · omega
  unfold sr at hge
  rw [d_sign] at hge
  unfold quar64 at *
  split at hge
  · omega
  · rename_i hs
    have hs : ¬ f / 9223372036854775808 % 2 = 1 := fun h => hs (beq_iff_eq.2 h)
    omega
theorem q_step {f : Nat} (hb : bd f 1) (hl : f < 18446744073709551616) (h : ge64 f quar64 = true) :
    floatBits .sub .f64 f quar64 = some (aop .sub .f64 f quar64) ∧ aop .sub .f64 f quar64 < f ∧ bd (aop .sub .f64 f quar64) 1 := by
  obtain ⟨h1, h2⟩ := ge_quar hb hl h
  obtain ⟨r, hr, hlt⟩ := quar_step f h1 h2
  have e := aop_some hr
  rw [e]
  obtain ⟨b1, b2, b3⟩ := hb
  have b3 : f % 9223372036854775808 ≤ 1024 * 4503599627370496 := b3
  refine ⟨hr, hlt, b1, b2, ?_⟩
  show _ ≤ 1024 * 4503599627370496
  omega
theorem qI_bd {f : Nat} (hb : bd f 1) (hl : f < 18446744073709551616) : ∀ k, (∀ j, j < k → ge64 (qI f j) quar64 = true) → bd (qI f k) 1 ∧ qI f k < 18446744073709551616
  | 0, _ => ⟨hb, hl⟩
  | k + 1, h => by
    have ih := qI_bd hb hl k (fun j hj => h j (by omega))
    exact ⟨(q_step ih.1 ih.2 (h k (by omega))).2.2, aop_lt64 _ _ _⟩
/-- k quarters, and no more. -/
def QN (f k : Nat) : Prop := (∀ j, j < k → ge64 (qI f j) quar64 = true) ∧ ge64 (qI f k) quar64 = false
theorem QN_one {f k m : Nat} (h : QN f k) (h2 : QN f m) : k = m := by
  rcases Nat.lt_trichotomy k m with a | a | a
  · have := h2.1 k a; rw [h.2] at this; cases this
  · exact a
  · have := h.1 m a; rw [h2.2] at this; cases this
end Go.Proofs.Ytogdolnmcfemfab
