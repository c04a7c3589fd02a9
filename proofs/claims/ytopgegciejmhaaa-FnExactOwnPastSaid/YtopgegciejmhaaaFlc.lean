/-
  Bounds by powers of two, kept by sums, products and quotients; what is bounded is narrowed as it should be.
-/
import Derived.Test.YtopgegciejmhaaaFlb
namespace Go.Proofs.Ytopgegciejmhaaa
open Ieee
set_option linter.unusedVariables false
set_option linter.unusedSimpArgs false

/-- The magnitude is at most 2 ^ e. -/
def bd (x : Nat) (e : Int) : Prop := -1021 ≤ e ∧ e ≤ 1023 ∧ x % 9223372036854775808 ≤ (e + 1023).toNat * 4503599627370496
/-- The magnitude is at least 2 ^ e, and the number is finite. -/
def lb (x : Nat) (e : Int) : Prop := -1022 ≤ e ∧ e ≤ 1023 ∧ (e + 1023).toNat * 4503599627370496 ≤ x % 9223372036854775808 ∧ x % 9223372036854775808 < 9218868437227405312

theorem mag_pow (k : Nat) (hk : 1 ≤ k) : mag 4503599627370496 (k * 4503599627370496) = 2 ^ (52 + (k - 1)) := by
  unfold mag
  rw [if_neg (by omega), Nat.mul_mod_left, Nat.mul_div_cancel _ (by omega), Nat.add_zero, Nat.pow_add]
theorem mag_le {r s : Nat} (h : r ≤ s) : mag 4503599627370496 r ≤ mag 4503599627370496 s := by
  rcases Nat.lt_or_ge r s with h1 | h1
  · exact Nat.le_of_lt (mag_mono _ (by omega) h1)
  · rw [Nat.le_antisymm h h1]; exact Nat.le_refl _
theorem bd_fin {x : Nat} {e : Int} (h : bd x e) : x % double.signWeight < double.infRung := by
  obtain ⟨h1, h2, h3⟩ := h
  rw [d_sign, d_inf]
  have : (e + 1023).toNat * 4503599627370496 ≤ 2046 * 4503599627370496 := Nat.mul_le_mul_right _ (by omega)
  omega
theorem bd_nan {x : Nat} {e : Int} (h : bd x e) : isN .f64 x = false := by
  have := bd_fin h
  rw [isN_iff]; exact decide_eq_false (by show ¬ double.infRung < x % double.signWeight; omega)
theorem bd_read {x : Nat} {e : Int} (h : bd x e) : ∃ s m, ∃ E : Nat, double.read x = .number s m (-1074 + E) ∧ m * 2 ^ E ≤ 2 ^ (e + 1074).toNat := by
  obtain ⟨s, m, E, h1, h2, _⟩ := read_mag double x (bd_fin h)
  refine ⟨s, m, E, by rw [h1, d_least], ?_⟩
  obtain ⟨g1, g2, g3⟩ := h
  rw [h2, d_binade, d_sign]
  refine Nat.le_trans (mag_le g3) ?_
  rw [mag_pow _ (by omega)]
  exact Nat.pow_le_pow_right (by omega) (by omega)
theorem lb_nan {x : Nat} {e : Int} (h : lb x e) : isN .f64 x = false := by
  obtain ⟨_, _, _, h4⟩ := h
  rw [isN_iff]; exact decide_eq_false (by show ¬ double.infRung < x % double.signWeight; rw [d_sign, d_inf]; omega)
theorem lb_read {x : Nat} {e : Int} (h : lb x e) : ∃ s m, ∃ E : Nat, double.read x = .number s m (-1074 + E) ∧ 2 ^ (e + 1074).toNat ≤ m * 2 ^ E := by
  obtain ⟨g1, g2, g3, g4⟩ := h
  obtain ⟨s, m, E, h1, h2, _⟩ := read_mag double x (by rw [d_sign, d_inf]; exact g4)
  refine ⟨s, m, E, by rw [h1, d_least], ?_⟩
  rw [h2, d_binade, d_sign]
  refine Nat.le_trans ?_ (mag_le g3)
  rw [mag_pow _ (by omega)]
  exact Nat.pow_le_pow_right (by omega) (by omega)
theorem bd_mono {x : Nat} {e f : Int} (h : bd x e) (hef : e ≤ f) (hf : f ≤ 1023) : bd x f := by
  obtain ⟨h1, h2, h3⟩ := h
  exact ⟨by omega, hf, Nat.le_trans h3 (Nat.mul_le_mul_right _ (by omega))⟩

theorem bd_nearest (neg : Bool) (m : Nat) (p e : Int) (he : -1021 ≤ e) (he2 : e ≤ 1023) (c : Nat) (hc : 0 ≤ p + c) (hce : 0 ≤ e + c)
    (h : m * 2 ^ (p + c).toNat ≤ 2 ^ (e + c).toNat) : bd (double.nearest neg m p) e := ⟨he, he2, nearest_le neg m p e he he2 c hc hce h⟩

theorem aop_some {op : BinOp} {x y r : Nat} (h : floatBits op .f64 x y = some r) : aop op .f64 x y = r := by unfold aop; rw [h]; rfl

theorem bd_mul {x y : Nat} {a b : Int} (hx : bd x a) (hy : bd y b) (h1 : -1021 ≤ a + b) (h2 : a + b ≤ 1023) : bd (aop .mul .f64 x y) (a + b) := by
  obtain ⟨s, m, E, hr, hm⟩ := bd_read hx
  obtain ⟨t, n, D, hq, hn⟩ := bd_read hy
  obtain ⟨ha, _, _⟩ := hx
  obtain ⟨hb, _, _⟩ := hy
  have hf : floatBits .mul .f64 x y = some (double.nearest (s ^^ t) (m * n) (-1074 + E + (-1074 + D))) := by
    show double.mul x y = _
    unfold Format.mul; rw [hr, hq]; rfl
  rw [aop_some hf]
  refine bd_nearest _ _ _ _ h1 h2 2148 (by omega) (by omega) ?_
  rw [show (-1074 + (E : Int) + (-1074 + (D : Int)) + (2148 : Nat)).toNat = E + D by omega, show (a + b + (2148 : Nat)).toNat = (a + 1074).toNat + (b + 1074).toNat by omega, Nat.pow_add, Nat.pow_add]
  calc m * n * (2 ^ E * 2 ^ D) = (m * 2 ^ E) * (n * 2 ^ D) := by rw [Nat.mul_assoc, Nat.mul_assoc, Nat.mul_left_comm n]
    _ ≤ _ := Nat.mul_le_mul hm hn

theorem natAbs_signed (s : Bool) (m e : Nat) : (signed s m e).natAbs = m * 2 ^ e := by
  unfold signed
  rw [Nat.shiftLeft_eq]
  cases s <;> simp only [if_true, if_false, Bool.false_eq_true] <;> omega

theorem bd_sum {s t : Bool} {m n E D : Nat} {a b e : Int} (hm : m * 2 ^ E ≤ 2 ^ (a + 1074).toNat) (hn : n * 2 ^ D ≤ 2 ^ (b + 1074).toNat) (ha : a + 1 ≤ e) (hb : b + 1 ≤ e) (h1 : -1021 ≤ e) (h2 : e ≤ 1023) (ha0 : -1021 ≤ a) (hb0 : -1021 ≤ b) :
    ∃ d, (Datum.number s m (-1074 + (E : Int))).sum (.number t n (-1074 + (D : Int))) = some d ∧ bd (double.write d) e := by
  simp only [Datum.sum]
  refine ⟨_, rfl, ?_⟩
  generalize hbase : min (-1074 + (E : Int)) (-1074 + (D : Int)) = base
  have hb2 : base + 1074 = (min E D : Nat) := by omega
  have k1 : (-1074 + (E : Int) - base).toNat + min E D = E := by omega
  have k2 : (-1074 + (D : Int) - base).toNat + min E D = D := by omega
  show bd (double.nearest _ (signed s m (-1074 + (E : Int) - base).toNat + signed t n (-1074 + (D : Int) - base).toNat).natAbs base) e
  refine bd_nearest _ _ _ _ h1 h2 1074 (by omega) (by omega) ?_
  rw [show (base + (1074 : Nat)).toNat = min E D by omega]
  have h3 : (signed s m (-1074 + (E : Int) - base).toNat + signed t n (-1074 + (D : Int) - base).toNat).natAbs ≤ m * 2 ^ (-1074 + (E : Int) - base).toNat + n * 2 ^ (-1074 + (D : Int) - base).toNat := by
    have := Int.natAbs_add_le (signed s m (-1074 + (E : Int) - base).toNat) (signed t n (-1074 + (D : Int) - base).toNat)
    rw [natAbs_signed, natAbs_signed] at this
    exact this
  refine Nat.le_trans (Nat.mul_le_mul_right _ h3) ?_
  rw [Nat.add_mul, Nat.mul_assoc, Nat.mul_assoc, ← Nat.pow_add, ← Nat.pow_add, k1, k2]
  have e1 : 2 ^ (a + 1074).toNat ≤ 2 ^ ((e + (1074 : Nat)).toNat - 1) := Nat.pow_le_pow_right (by omega) (by omega)
  have e2 : 2 ^ (b + 1074).toNat ≤ 2 ^ ((e + (1074 : Nat)).toNat - 1) := Nat.pow_le_pow_right (by omega) (by omega)
  have e3 : 2 ^ (e + (1074 : Nat)).toNat = 2 ^ ((e + (1074 : Nat)).toNat - 1) * 2 := by rw [← Nat.pow_succ]; congr 1; omega
  omega
theorem bd_add {x y : Nat} {a b e : Int} (hx : bd x a) (hy : bd y b) (ha : a + 1 ≤ e) (hb : b + 1 ≤ e) (h2 : e ≤ 1023) : bd (aop .add .f64 x y) e := by
  obtain ⟨s, m, E, hr, hm⟩ := bd_read hx
  obtain ⟨t, n, D, hq, hn⟩ := bd_read hy
  obtain ⟨ha0, _, _⟩ := hx
  obtain ⟨hb0, _, _⟩ := hy
  obtain ⟨d, h3, h4⟩ := bd_sum (s := s) (t := t) hm hn ha hb (by omega) h2 ha0 hb0
  have hf : floatBits .add .f64 x y = some (double.write d) := by
    show double.add x y = _
    unfold Format.add; rw [hr, hq, h3]; rfl
  rw [aop_some hf]; exact h4
theorem bd_sub {x y : Nat} {a b e : Int} (hx : bd x a) (hy : bd y b) (ha : a + 1 ≤ e) (hb : b + 1 ≤ e) (h2 : e ≤ 1023) : bd (aop .sub .f64 x y) e := by
  obtain ⟨s, m, E, hr, hm⟩ := bd_read hx
  obtain ⟨t, n, D, hq, hn⟩ := bd_read hy
  obtain ⟨ha0, _, _⟩ := hx
  obtain ⟨hb0, _, _⟩ := hy
  obtain ⟨d, h3, h4⟩ := bd_sum (s := s) (t := !t) hm hn ha hb (by omega) h2 ha0 hb0
  have hf : floatBits .sub .f64 x y = some (double.write d) := by
    show double.sub x y = _
    unfold Format.sub; rw [hr, hq]; show Option.map _ ((Datum.number s m _).sum (.number (!t) n _)) = _; rw [h3]; rfl
  rw [aop_some hf]; exact h4

theorem bd_quo {x y : Nat} {a b : Int} (hx : bd x a) (hy : lb y b) (h1 : -1021 ≤ a - b) (h2 : a - b ≤ 1023) : bd (aop .quo .f64 x y) (a - b) := by
  obtain ⟨s, m, E, hr, hm⟩ := bd_read hx
  obtain ⟨t, n, D, hq, hn⟩ := lb_read hy
  obtain ⟨ha0, _, _⟩ := hx
  obtain ⟨hb0, _, _, _⟩ := hy
  have hn0 : 0 < n := by
    rcases Nat.eq_zero_or_pos n with h | h
    · subst h; rw [Nat.zero_mul] at hn; have := Nat.two_pow_pos (b + 1074).toNat; omega
    · exact h
  generalize hmore : 54 + n.log2 - m.log2 = more
  have hf : floatBits .quo .f64 x y = some (double.nearest (s ^^ t) (2 * ((m <<< more) / n) + ((m <<< more) % n != 0).toNat) (-1074 + (E : Int) - (-1074 + (D : Int)) - more - 1)) := by
    show double.div x y = _
    unfold Format.div
    rw [hr, hq]
    simp only [Datum.quotient]
    rw [if_neg (by omega)]
    show some (double.nearest _ _ _) = _
    have : double.fractionBits + 2 + n.log2 - m.log2 = more := hmore
    rw [this]
  rw [aop_some hf]
  by_cases hm0 : m = 0
  · subst hm0
    refine bd_nearest _ _ _ _ h1 h2 (1074 + D + more + 1) (by omega) (by omega) ?_
    simp
  have hm1 : 0 < m := by omega
  obtain ⟨bm1, bm2⟩ := log2_bounds hm1
  obtain ⟨bn1, bn2⟩ := log2_bounds hn0
  -- the exponents
  have hE : (m.log2 : Int) + E ≤ a + 1074 := by
    have : 2 ^ (m.log2 + E) ≤ 2 ^ (a + 1074).toNat := by rw [Nat.pow_add]; exact Nat.le_trans (Nat.mul_le_mul_right _ bm1) hm
    have := (Nat.pow_le_pow_iff_right (by omega : 1 < 2)).1 this
    omega
  have hD : b + 1074 < (n.log2 : Int) + 1 + D := by
    have : 2 ^ (b + 1074).toNat < 2 ^ (n.log2 + 1 + D) := by rw [Nat.pow_add]; exact Nat.lt_of_le_of_lt hn (Nat.mul_lt_mul_of_pos_right bn2 (Nat.two_pow_pos _))
    have := (Nat.pow_lt_pow_iff_right (by omega : 1 < 2)).1 this
    omega
  obtain ⟨T, hT⟩ : ∃ T : Nat, (T : Int) = a - b + more + D - E := by
    refine ⟨(a - b + more + D - E).toNat, ?_⟩
    omega
  have hq2 : m * 2 ^ more ≤ 2 ^ T * n := by
    have h3 : m * 2 ^ more * 2 ^ (E + (b + 1074).toNat) ≤ 2 ^ T * n * 2 ^ (E + (b + 1074).toNat) := by
      calc m * 2 ^ more * 2 ^ (E + (b + 1074).toNat) = (m * 2 ^ E) * (2 ^ more * 2 ^ (b + 1074).toNat) := by
            rw [Nat.pow_add]; simp only [Nat.mul_assoc, Nat.mul_left_comm, Nat.mul_comm]
        _ ≤ 2 ^ (a + 1074).toNat * (2 ^ more * (n * 2 ^ D)) := Nat.mul_le_mul hm (Nat.mul_le_mul_left _ hn)
        _ = 2 ^ ((a + 1074).toNat + more + D) * n := by
            rw [Nat.pow_add, Nat.pow_add]; simp only [Nat.mul_assoc, Nat.mul_left_comm, Nat.mul_comm]
        _ = 2 ^ (T + (E + (b + 1074).toNat)) * n := by congr 2; omega
        _ = 2 ^ T * n * 2 ^ (E + (b + 1074).toNat) := by rw [Nat.pow_add]; simp only [Nat.mul_assoc, Nat.mul_left_comm, Nat.mul_comm]
    exact Nat.le_of_mul_le_mul_right h3 (Nat.two_pow_pos _)
  have hmag : 2 * ((m <<< more) / n) + ((m <<< more) % n != 0).toNat ≤ 2 ^ (T + 1) := by
    rw [Nat.shiftLeft_eq]
    have hdm := Nat.div_add_mod (m * 2 ^ more) n
    have hle : m * 2 ^ more / n ≤ 2 ^ T := by
      rw [Nat.div_le_iff_le_mul_add_pred hn0]; rw [Nat.mul_comm n]; omega
    rw [Nat.pow_succ]
    by_cases he : m * 2 ^ more / n = 2 ^ T
    · have : m * 2 ^ more % n = 0 := by
        rw [he, Nat.mul_comm n] at hdm; omega
      rw [he, this]; simp; omega
    · have : ∀ u : Bool, u.toNat ≤ 1 := fun u => by cases u <;> decide
      have := this (m * 2 ^ more % n != 0)
      omega
  refine bd_nearest _ _ _ _ h1 h2 (1074 + D + more + 1) (by omega) (by omega) ?_
  rw [show (-1074 + (E : Int) - (-1074 + (D : Int)) - (more : Int) - 1 + ((1074 + D + more + 1 : Nat) : Int)).toNat = E + 1074 by omega]
  refine Nat.le_trans (Nat.mul_le_mul_right _ hmag) ?_
  rw [← Nat.pow_add]
  exact Nat.pow_le_pow_right (by omega) (by omega)
end Go.Proofs.Ytopgegciejmhaaa
