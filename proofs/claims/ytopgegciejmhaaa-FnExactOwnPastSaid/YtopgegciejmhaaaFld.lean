/-
  What is at most 2 ^ 126 is narrowed as it should be; roots; the words of constants.
-/
import Derived.Test.YtopgegciejmhaaaFlc
namespace Go.Proofs.Ytopgegciejmhaaa
open Ieee
set_option linter.unusedVariables false
set_option linter.unusedSimpArgs false

theorem single_fin (neg : Bool) (m : Nat) (p : Int) (h : m = 0 ∨ (m.log2 : Int) + p ≤ 126) : (single.read (single.nearest neg m p)).isInfinity = false := by
  have key : ∃ R, single.nearest neg m p = single.word neg R ∧ R < 2139095040 := by
    unfold Format.nearest
    by_cases h0 : m = 0
    · rw [if_pos h0]; exact ⟨0, rfl, by omega⟩
    · rw [if_neg h0]
      have hm0 : 0 < m := by omega
      have hL : (m.log2 : Int) + p ≤ 126 := by rcases h with h | h <;> omega
      obtain ⟨b1, b2⟩ := log2_bounds hm0
      have hf : (single.fractionBits : Int) = 23 := rfl
      simp only [s_least, s_binade, s_inf, hf]
      refine ⟨_, rfl, Nat.lt_of_le_of_lt (Nat.min_le_left ..) ?_⟩
      by_cases hn : -149 ≤ p + (m.log2 : Int) - 23
      · rw [Int.max_eq_left hn]
        have hk : Toward.even.cut neg (m <<< (p - (p + (m.log2 : Int) - 23)).toNat) (p + (m.log2 : Int) - 23 - p).toNat ≤ 16777216 := by
          by_cases hl : m.log2 ≤ 23
          · rw [show (p + (m.log2 : Int) - 23 - p).toNat = 0 by omega, cut_zero, Nat.shiftLeft_eq, show (p - (p + (m.log2 : Int) - 23)).toNat = 23 - m.log2 by omega]
            have : m * 2 ^ (23 - m.log2) < 2 ^ (m.log2 + 1) * 2 ^ (23 - m.log2) := Nat.mul_lt_mul_of_pos_right b2 (Nat.two_pow_pos _)
            rw [← Nat.pow_add, show m.log2 + 1 + (23 - m.log2) = 24 by omega] at this
            omega
          · rw [show (p - (p + (m.log2 : Int) - 23)).toNat = 0 by omega, Nat.shiftLeft_eq, Nat.pow_zero, Nat.mul_one]
            refine Nat.le_trans (cut_le neg m _ (m.log2 - 23) (by omega)) ?_
            have : m / 2 ^ (m.log2 - 23) < 2 ^ 24 := by
              rw [Nat.div_lt_iff_lt_mul (Nat.two_pow_pos _), ← Nat.pow_add, show 24 + (m.log2 - 23) = m.log2 + 1 by omega]; exact b2
            omega
        have : (p + (m.log2 : Int) - 23 - -149).toNat ≤ 252 := by omega
        have h3 : (p + (m.log2 : Int) - 23 - -149).toNat * 8388608 ≤ 252 * 8388608 := Nat.mul_le_mul_right _ this
        omega
      · rw [Int.max_eq_right (by omega)]
        have hk : Toward.even.cut neg (m <<< (p - -149).toNat) (-149 - p).toNat ≤ 16777216 := by
          by_cases hl : -149 ≤ p
          · rw [show (-149 - p).toNat = 0 by omega, cut_zero, Nat.shiftLeft_eq]
            have : m * 2 ^ (p - -149).toNat < 2 ^ (m.log2 + 1) * 2 ^ (p - -149).toNat := Nat.mul_lt_mul_of_pos_right b2 (Nat.two_pow_pos _)
            rw [← Nat.pow_add] at this
            have h5 : 2 ^ (m.log2 + 1 + (p - -149).toNat) ≤ 2 ^ 24 := Nat.pow_le_pow_right (by omega) (by omega)
            omega
          · rw [show (p - -149).toNat = 0 by omega, Nat.shiftLeft_eq, Nat.pow_zero, Nat.mul_one]
            refine Nat.le_trans (cut_le neg m _ _ rfl) ?_
            have : m / 2 ^ (min (-149 - p).toNat (m.log2 + 2)) < 2 ^ 23 := by
              rw [Nat.div_lt_iff_lt_mul (Nat.two_pow_pos _), ← Nat.pow_add]
              exact Nat.lt_of_lt_of_le b2 (Nat.pow_le_pow_right (by omega) (by omega))
            omega
        rw [show (-149 - -149 : Int).toNat = 0 by omega, Nat.zero_mul, Nat.zero_add]
        omega
  obtain ⟨R, hR, hR2⟩ := key
  rw [hR]
  rw [read_word _ _ (by rw [s_sign]; omega), s_binade, s_inf]
  split
  · rfl
  · first | rfl | (rw [if_pos hR2]; rfl)

theorem narOk_of_read {x : Nat} {s : Bool} {m : Nat} {p : Int} (hr : double.read x = .number s m p) (h : m = 0 ∨ (m.log2 : Int) + p ≤ 126) : narOk x := by
  intro _
  unfold floatToFloatBits
  rw [if_neg (by decide), show FloatKind.decode .f64 x = .number s m p from hr]
  simp only [show FloatKind.decode .f32 (FloatKind.encode .f32 (.number s m p)) = single.read (single.nearest s m p) from rfl, single_fin s m p h]
  rfl
theorem narOk_bd {x : Nat} {e : Int} (h : bd x e) (he : e ≤ 126) : narOk x := by
  obtain ⟨s, m, E, hr, hm⟩ := bd_read h
  obtain ⟨h1, _, _⟩ := h
  refine narOk_of_read hr ?_
  by_cases h0 : m = 0
  · exact .inl h0
  · right
    obtain ⟨b1, _⟩ := log2_bounds (show 0 < m by omega)
    have : 2 ^ (m.log2 + E) ≤ 2 ^ (e + 1074).toNat := by rw [Nat.pow_add]; exact Nat.le_trans (Nat.mul_le_mul_right _ b1) hm
    have := (Nat.pow_le_pow_iff_right (by omega : 1 < 2)).1 this
    omega
theorem narOk_nan {x : Nat} (h : isN .f64 x = true) : narOk x := fun h2 => by rw [h] at h2; cases h2
theorem narOk_cn {x y : Nat} (h : cn .f64 x = cn .f64 y) (hy : narOk y) : narOk x := by
  intro hx
  have hy' : isN .f64 y = false := by rw [← isN_congr h]; exact hx
  rw [cn_num hx, cn_num hy'] at h
  rw [h]; exact hy hy'
theorem bd_cn {x y : Nat} {e : Int} (h : cn .f64 x = y) (hy : bd y e) : narOk x ∨ True := .inr trivial
/-- A word that is y up to a not-a-number, y bounded, is y. -/
theorem bd_of_cn {x y : Nat} {e : Int} (h : cn .f64 x = y) (hy : bd y e) : x = y := by
  have hN : isN .f64 x = false := by
    rw [← isN_cn, h]; exact bd_nan hy
  rw [cn_num hN] at h; exact h

/-- Square roots. -/
def sqR (x : Nat) (w : World) : Nat := (double.sqrt x).getD ((Question.nanBits .f64 x x).cut (w.tape w.drawn (.nanBits .f64 x x)))
def sqN (x : Nat) : Nat := if (double.sqrt x).isSome then 0 else 1
def asq (x : Nat) : Nat := (double.sqrt x).getD (nanOf .f64)
theorem root_nan {n : Nat} {d r : Datum} (h : d.root n = some r) : d.isNaN = false ∧ r.isNaN = false := by
  cases d <;> simp only [Datum.root] at h <;> first | cases h; done | (repeat' split at h) <;> first | (cases h; done) | (cases h; exact ⟨rfl, rfl⟩)
theorem sqrt_nan {x r : Nat} (h : double.sqrt x = some r) : isN .f64 x = false ∧ isN .f64 r = false := by
  unfold Format.sqrt at h
  obtain ⟨d, h1, rfl⟩ := Option.map_eq_some_iff.1 h
  obtain ⟨a, b⟩ := root_nan h1
  exact ⟨a, write_nan _ _ b⟩
theorem sqrt_none {x : Nat} (h : isN .f64 x = true) : double.sqrt x = none := by
  cases h1 : double.sqrt x with
  | none => rfl
  | some r => have := (sqrt_nan h1).1; rw [h] at this; cases this
theorem asq_cn (x : Nat) : asq (cn .f64 x) = asq x := by
  cases h : isN .f64 x
  · rw [cn_num h]
  · unfold asq; rw [sqrt_none h, sqrt_none (by rw [isN_cn]; exact h)]
theorem cn_asq (x : Nat) : cn .f64 (asq x) = asq x := by
  unfold asq
  cases h : double.sqrt x with
  | none => exact cn_nan (isN_nanOf _)
  | some r => exact cn_num (sqrt_nan h).2
theorem cn_sqR (x : Nat) (w : World) : cn .f64 (sqR x w) = asq (cn .f64 x) := by
  rw [asq_cn]
  unfold sqR asq
  cases h : double.sqrt x with
  | none => exact cn_nan (isN_cut_bits .f64 x x _)
  | some r => exact cn_num (sqrt_nan h).2
theorem run_sqR {P : Program} (w : World) (x : Nat) : (Extern.MathSqrt.sqrt #[.float .f64 x]).run P w = .ok (.float .f64 (sqR x w)) (w.drewN (sqN x)) := by
  unfold sqR sqN
  change Sem.run P (match (FloatKind.format .f64).sqrt x with
    | some r => (pure (Value.float .f64 r) : Sem Value)
    | none => do pure (Value.float .f64 (← choose (.nanBits .f64 x x)))) w = _
  cases h : double.sqrt x with
  | some r =>
    have h' : (FloatKind.format .f64).sqrt x = some r := h
    rw [h']; simp [Sem.run_pure]; rfl
  | none =>
    have h' : (FloatKind.format .f64).sqrt x = none := h
    rw [h']; simp [Question.forced]; rfl
end Go.Proofs.Ytopgegciejmhaaa
