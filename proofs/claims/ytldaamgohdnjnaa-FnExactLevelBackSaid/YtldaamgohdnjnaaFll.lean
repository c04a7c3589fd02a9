/-
  The logarithm, as a plain function of words, and how great what comes on the way can be.
-/
import Derived.Test.YtldaamgohdnjnaaFlg
namespace Go.Proofs.Ytldaamgohdnjnaa
open Ieee
set_option linter.unusedVariables false
set_option linter.unusedSimpArgs false

theorem cut_ge (s : Bool) (n d : Nat) (h : d ≤ n.log2 + 2) : n / 2 ^ d ≤ Toward.even.cut s n d := by
  unfold Toward.cut
  simp only [Nat.shiftLeft_eq, Nat.one_mul, Nat.min_eq_left h]
  exact Nat.le_add_right _ _
/-- The nearest word of a number that is at least 2 ^ e. -/
theorem nearest_ge (neg : Bool) (m : Nat) (p e : Int) (h0 : 0 < m) (he : -1022 ≤ e) (he2 : e ≤ 1023) (h : e ≤ m.log2 + p) :
    (e + 1023).toNat * 4503599627370496 ≤ double.nearest neg m p % 9223372036854775808 := by
  obtain ⟨b1, b2⟩ := log2_bounds h0
  have key : ∃ R, double.nearest neg m p = double.word neg R ∧ R ≤ 9218868437227405312 ∧ (e + 1023).toNat * 4503599627370496 ≤ R := by
    unfold Format.nearest
    rw [if_neg (by omega)]
    have hf : (double.fractionBits : Int) = 52 := rfl
    simp only [d_least, d_binade, d_inf, hf]
    refine ⟨_, rfl, Nat.min_le_right .., Nat.le_min.2 ⟨?_, ?_⟩⟩
    · rw [Int.max_eq_left (by omega)]
      have hk : 4503599627370496 ≤ Toward.even.cut neg (m <<< (p - (p + (m.log2 : Int) - 52)).toNat) (p + (m.log2 : Int) - 52 - p).toNat := by
        by_cases hl : m.log2 ≤ 52
        · rw [show (p + (m.log2 : Int) - 52 - p).toNat = 0 by omega, cut_zero, Nat.shiftLeft_eq, show (p - (p + (m.log2 : Int) - 52)).toNat = 52 - m.log2 by omega]
          have : 2 ^ m.log2 * 2 ^ (52 - m.log2) ≤ m * 2 ^ (52 - m.log2) := Nat.mul_le_mul_right _ b1
          rw [← Nat.pow_add, show m.log2 + (52 - m.log2) = 52 by omega] at this
          exact this
        · rw [show (p - (p + (m.log2 : Int) - 52)).toNat = 0 by omega, Nat.shiftLeft_eq, Nat.pow_zero, Nat.mul_one, show (p + (m.log2 : Int) - 52 - p).toNat = m.log2 - 52 by omega]
          refine Nat.le_trans ?_ (cut_ge neg m (m.log2 - 52) (by omega))
          rw [Nat.le_div_iff_mul_le (Nat.two_pow_pos _)]
          have : (4503599627370496 : Nat) = 2 ^ 52 := by decide
          rw [this, ← Nat.pow_add, show 52 + (m.log2 - 52) = m.log2 by omega]; exact b1
      have : (e + 1023).toNat ≤ (p + (m.log2 : Int) - 52 - -1074).toNat + 1 := by omega
      have := Nat.mul_le_mul_right 4503599627370496 this
      omega
    · have : (e + 1023).toNat ≤ 2046 := by omega
      have := Nat.mul_le_mul_right 4503599627370496 this
      omega
  obtain ⟨R, hR, hR1, hR2⟩ := key
  obtain ⟨a, _, _⟩ := word_low neg (r := R) (by omega)
  rw [hR, a]; exact hR2

def w75 : Nat := 4604930618986332160
def w15 : Nat := 4609434218613702656
/-- Between 3/4 and 3/2. -/
def mid (x : Nat) : Prop := w75 ≤ x ∧ x < w15
theorem mag_75 (K : Nat) (hK : K = 1072) : mag 4503599627370496 w75 = 3 * 2 ^ K := by
  have q : w75 / 4503599627370496 - 1 = K - 51 := by rw [hK]; decide
  unfold mag
  rw [if_neg (by unfold w75; omega), q, show w75 % 4503599627370496 = 2251799813685248 by decide, show (4503599627370496 + 2251799813685248 : Nat) = 3 * 2 ^ 51 by decide, Nat.mul_assoc, ← Nat.pow_add]
  congr 2; omega
theorem mag_15 (K : Nat) (hK : K = 1072) : mag 4503599627370496 w15 = 6 * 2 ^ K := by
  have q : w15 / 4503599627370496 - 1 = K - 50 := by rw [hK]; decide
  unfold mag
  rw [if_neg (by unfold w15; omega), q, show w15 % 4503599627370496 = 2251799813685248 by decide, show (4503599627370496 + 2251799813685248 : Nat) = 6 * 2 ^ 50 by decide, Nat.mul_assoc, ← Nat.pow_add]
  congr 2; omega
theorem mid_read (K : Nat) (hK : K = 1072) {x : Nat} (h : mid x) : ∃ m, ∃ E : Nat, double.read x = .number false m (-1074 + E) ∧ 3 * 2 ^ K ≤ m * 2 ^ E ∧ m * 2 ^ E ≤ 6 * 2 ^ K := by
  obtain ⟨h1, h2⟩ := h
  have h3 : x < 9223372036854775808 := by unfold w15 at h2; omega
  have hx : x % double.signWeight = x := by rw [d_sign]; exact Nat.mod_eq_of_lt h3
  obtain ⟨s, m, E, g1, g2, g3⟩ := read_mag double x (by rw [hx, d_inf]; unfold w15 at h2; omega)
  rw [hx, d_binade] at g2
  have hs : s = false := by rw [g3, d_sign, Nat.div_eq_of_lt h3]; rfl
  subst hs
  refine ⟨m, E, by rw [g1, d_least], ?_, ?_⟩
  · rw [g2, ← mag_75 K hK]; exact mag_le h1
  · rw [g2, ← mag_15 K hK]; exact mag_le (by omega)
theorem mid_bd {x : Nat} (h : mid x) : bd x 1 := by
  obtain ⟨h1, h2⟩ := h
  unfold w15 at h2
  refine ⟨by omega, by omega, ?_⟩
  show _ ≤ 1024 * 4503599627370496
  omega
theorem one_read : double.read one64 = .number false 4503599627370496 (-52) := by unfold one64; decide +kernel
theorem mid_sub {x : Nat} (h : mid x) : bd (aop .sub .f64 x one64) (-1) := by
  obtain ⟨K, hK⟩ : ∃ K : Nat, K = 1072 := ⟨_, rfl⟩
  obtain ⟨m, E, hr, h1, h2⟩ := mid_read K hK h
  have hd : floatBits .sub .f64 x one64 = (((Datum.number false m (-1074 + (E : Int))).sum (.number true 4503599627370496 (-52))).map double.write) := by
    show double.sub x _ = _
    unfold Format.sub; rw [hr, one_read]; rfl
  simp only [Datum.sum, Option.map_some, write_num] at hd
  rw [aop_some hd]
  generalize hbase : min (-1074 + (E : Int)) (-52) = base
  refine bd_nearest _ _ _ _ (by omega) (by omega) 1074 (by omega) (by omega) ?_
  obtain ⟨B, hB⟩ : ∃ B : Nat, (B : Int) = base + 1074 := ⟨(base + 1074).toNat, by omega⟩
  rw [show (base + (1074 : Nat)).toNat = B by omega, show ((-1 : Int) + (1074 : Nat)).toNat = K + 1 by omega, signed_mag, signed_mag]
  have e1 : m * 2 ^ (-1074 + (E : Int) - base).toNat * 2 ^ B = m * 2 ^ E := by rw [Nat.mul_assoc, ← Nat.pow_add]; congr 2; omega
  have e2 : 4503599627370496 * 2 ^ (-52 - base).toNat * 2 ^ B = 4 * 2 ^ K := by
    rw [show (4503599627370496 : Nat) = 4 * 2 ^ 50 by decide, Nat.mul_assoc, Nat.mul_assoc, ← Nat.pow_add, ← Nat.pow_add]; congr 2; omega
  generalize m * 2 ^ (-1074 + (E : Int) - base).toNat = A at *
  generalize 4503599627370496 * 2 ^ (-52 - base).toNat = C at *
  simp only [if_true, if_false, Bool.false_eq_true]
  rw [Nat.pow_succ]
  rcases Nat.le_total C A with hle | hle
  · rw [show ((A : Int) + -(C : Int)).natAbs = A - C by omega, Nat.sub_mul, e1, e2]; omega
  · rw [show ((A : Int) + -(C : Int)).natAbs = C - A by omega, Nat.sub_mul, e1, e2]; omega
theorem mid_add_bd {x : Nat} (h : mid x) : bd (aop .add .f64 x one64) 2 := bd_add (mid_bd h) bd_one (by omega) (by omega) (by omega)
theorem mid_add {x : Nat} (h : mid x) : lb (aop .add .f64 x one64) 0 := by
  obtain ⟨K, hK⟩ : ∃ K : Nat, K = 1072 := ⟨_, rfl⟩
  obtain ⟨m, E, hr, h1, h2⟩ := mid_read K hK h
  have hb := bd_fin (mid_add_bd h)
  rw [d_sign, d_inf] at hb
  refine ⟨by omega, by omega, ?_, hb⟩
  have hd : floatBits .add .f64 x one64 = (((Datum.number false m (-1074 + (E : Int))).sum (.number false 4503599627370496 (-52))).map double.write) := by
    show double.add x _ = _
    unfold Format.add; rw [hr, one_read]
  simp only [Datum.sum, Option.map_some, write_num] at hd
  rw [aop_some hd]
  generalize hbase : min (-1074 + (E : Int)) (-52) = base
  rw [signed_mag, signed_mag]
  simp only [if_false, Bool.false_eq_true]
  have h3 : 2 ^ (52 + (-52 - base).toNat) ≤ ((m * 2 ^ (-1074 + (E : Int) - base).toNat : Nat) + (4503599627370496 * 2 ^ (-52 - base).toNat : Nat) : Int).natAbs := by
    rw [show (4503599627370496 : Nat) = 2 ^ 52 by decide, ← Nat.pow_add]; omega
  have h4 := log2_ge_of_le h3
  refine nearest_ge _ _ _ _ (by have := Nat.two_pow_pos (52 + (-52 - base).toNat); omega) (by omega) (by omega) (by omega)

/-- How often a word is halved to come between 3/4 and 3/2, and what it is then. -/
def lexp (r : Nat) : Int := ((r : Int) - w75) / 4503599627370496
def lred (r : Nat) : Nat := ((r : Int) - lexp r * 4503599627370496).toNat
theorem lred_of {r Y : Nat} {e : Int} (h : (Y : Int) = r - e * 4503599627370496) (h1 : w75 ≤ Y) (h2 : Y < w15) : lexp r = e ∧ lred r = Y := by
  have : lexp r = e := by unfold lexp; unfold w75 w15 at *; omega
  refine ⟨this, ?_⟩
  unfold lred; rw [this]; omega
def tailR : Nat := 4604418534313441775
def kz (e : Int) : Nat := floatOfInt .f64 e
def lnS (X : Nat) : Nat := aop .quo .f64 (aop .sub .f64 X one64) (aop .add .f64 X one64)
def lnU (X : Nat) : Nat := aop .mul .f64 (lnS X) (lnS X)
/-- 25 - 2 i. -/
def ks (i : Nat) : Nat := floatOfInt .f64 (25 - 2 * (i : Int))
/-- After i rounds, k from 25 down by 2. -/
def lnTo (u : Nat) : Nat → Nat
  | 0 => 0
  | i + 1 => aop .add .f64 (aop .quo .f64 one64 (ks i)) (aop .mul .f64 u (lnTo u i))
def lnSQ (X : Nat) : Nat := aop .mul .f64 (lnS X) (lnTo (lnU X) 13)
def lnSQ2 (X : Nat) : Nat := aop .mul .f64 4611686018427387904 (lnSQ X)
def lnE (e : Int) : Nat := aop .mul .f64 (kz e) tailR
/-- The logarithm of a positive word. -/
def lnW (r : Nat) : Nat := aop .add .f64 (lnSQ2 (lred r)) (lnE (lexp r))
theorem lnS_bd {X : Nat} (h : mid X) : bd (lnS X) (-1) := by
  have := bd_quo (mid_sub h) (mid_add h) (by omega) (by omega)
  exact bd_mono this (by omega) (by omega)
theorem lnU_bd {X : Nat} (h : mid X) : bd (lnU X) (-2) := bd_mul (lnS_bd h) (lnS_bd h) (by omega) (by omega)
theorem ks_lb : ∀ i, i < 13 → lb (ks i) 0 := by unfold lb ks; decide +kernel
theorem inv_bd {i : Nat} (h : i < 13) : bd (aop .quo .f64 one64 (ks i)) 0 := bd_quo bd_one (ks_lb i h) (by omega) (by omega)
theorem zero_bd : bd 0 1 := by unfold bd; decide +kernel
theorem ln_mul {u q : Nat} (hu : bd u (-2)) (hq : bd q 1) : bd (aop .mul .f64 u q) (-1) := bd_mul hu hq (by omega) (by omega)
theorem ln_step {u q i : Nat} (hu : bd u (-2)) (hq : bd q 1) (h : i < 13) : bd (aop .add .f64 (aop .quo .f64 one64 (ks i)) (aop .mul .f64 u q)) 1 :=
  bd_add (inv_bd h) (ln_mul hu hq) (by omega) (by omega) (by omega)
theorem lnTo_bd {u : Nat} (hu : bd u (-2)) : ∀ i, i ≤ 13 → bd (lnTo u i) 1
  | 0, _ => zero_bd
  | i + 1, h => ln_step hu (lnTo_bd hu i (by omega)) (by omega)
theorem lnSQ_bd {X : Nat} (h : mid X) : bd (lnSQ X) 0 := bd_mul (lnS_bd h) (lnTo_bd (lnU_bd h) 13 (by omega)) (by omega) (by omega)
theorem two_bd : bd 4611686018427387904 1 := by unfold bd; decide +kernel
theorem tail_bd : bd tailR 0 := by unfold bd tailR; decide +kernel
theorem lnSQ2_bd {X : Nat} (h : mid X) : bd (lnSQ2 X) 1 := bd_mul two_bd (lnSQ_bd h) (by omega) (by omega)
theorem kz_bd' : ∀ n : Nat, n < 400 → bd (floatOfInt .f64 ((n : Int) - 200)) 8 := by unfold bd; decide +kernel
theorem kz_bd {e : Int} (h1 : -200 ≤ e) (h2 : e < 200) : bd (kz e) 8 := by
  have := kz_bd' (e + 200).toNat (by omega)
  rw [show (((e + 200).toNat : Nat) : Int) - 200 = e by omega] at this
  exact this
theorem lnE_bd {e : Int} (h1 : -200 ≤ e) (h2 : e < 200) : bd (lnE e) 8 := bd_mul (kz_bd h1 h2) tail_bd (by omega) (by omega)
theorem kz_sub' : ∀ n : Nat, n < 400 → floatBits .sub .f64 (floatOfInt .f64 ((n : Int) - 200)) 4607182418800017408 = some (floatOfInt .f64 ((n : Int) - 200 - 1)) := by decide +kernel
theorem kz_add' : ∀ n : Nat, n < 400 → floatBits .add .f64 (floatOfInt .f64 ((n : Int) - 200)) 4607182418800017408 = some (floatOfInt .f64 ((n : Int) - 200 + 1)) := by decide +kernel
theorem kz_sub {e : Int} (h1 : -200 ≤ e) (h2 : e < 200) : floatBits .sub .f64 (kz e) 4607182418800017408 = some (kz (e - 1)) := by
  have := kz_sub' (e + 200).toNat (by omega)
  rw [show (((e + 200).toNat : Nat) : Int) - 200 = e by omega] at this
  exact this
theorem kz_add {e : Int} (h1 : -200 ≤ e) (h2 : e < 200) : floatBits .add .f64 (kz e) 4607182418800017408 = some (kz (e + 1)) := by
  have := kz_add' (e + 200).toNat (by omega)
  rw [show (((e + 200).toNat : Nat) : Int) - 200 = e by omega] at this
  exact this
/-- The counter of the program's loop. -/
theorem ks_sub : ∀ i, i < 13 → floatBits .sub .f64 (ks i) 4611686018427387904 = some (ks (i + 1)) := by unfold ks; decide +kernel
theorem ks_ge : ∀ i, i < 14 → (((FloatKind.format .f64).order (ks i) 4607182418800017408 == some Ordering.gt) || ((FloatKind.format .f64).order (ks i) 4607182418800017408 == some Ordering.eq)) = decide (i < 13) := by unfold ks; decide +kernel
/-- A float, as a number that goes down, and no less than 0. -/
def fltM : Value → Nat
  | .float _ b => if b < 9223372036854775808 then b + 1 else 0
  | _ => 0
theorem ks_lt : ∀ i, i < 13 → fltM (.float .f64 (ks (i + 1))) < fltM (.float .f64 (ks i)) := by unfold ks fltM; decide +kernel
theorem ks_0 : ks 0 = 4627730092099895296 := by unfold ks; decide +kernel
/-- Positive words are compared as numbers. -/
theorem pos_order {x y : Nat} (hx : x < 9218868437227405312) (hy : y < 9218868437227405312) : (FloatKind.format .f64).order x y = some (compare (x : Int) (y : Int)) := by
  have n : ∀ z, z < 9218868437227405312 → isN .f64 z = false := fun z hz => by
    rw [isN_iff]; exact decide_eq_false (by show ¬ double.infRung < z % double.signWeight; rw [d_sign, d_inf]; omega)
  have s : ∀ z, z < 9218868437227405312 → sr (FloatKind.format .f64) z = z := fun z hz => by
    unfold sr
    rw [show (FloatKind.format .f64).signWeight = 9223372036854775808 from d_sign, show (z / 9223372036854775808 % 2 == 1) = false from beq_eq_false_iff_ne.2 (by omega), if_neg (by simp), Nat.mod_eq_of_lt (by omega)]
  rw [order_all .f64 x y (n x hx) (n y hy), s x hx, s y hy]
theorem pos_lt {x y : Nat} (hx : x < 9218868437227405312) (hy : y < 9218868437227405312) : ((FloatKind.format .f64).order x y == some Ordering.lt) = decide (x < y) := by
  rw [pos_order hx hy]
  simp only [compare, compareOfLessAndEq]
  by_cases h : x < y
  · rw [if_pos (by omega), decide_eq_true h]; rfl
  · rw [if_neg (by omega), decide_eq_false h]; split <;> rfl
theorem pos_ge {x y : Nat} (hx : x < 9218868437227405312) (hy : y < 9218868437227405312) : (((FloatKind.format .f64).order x y == some Ordering.gt) || ((FloatKind.format .f64).order x y == some Ordering.eq)) = decide (y ≤ x) := by
  rw [pos_order hx hy]
  simp only [compare, compareOfLessAndEq]
  by_cases h : x < y
  · rw [if_pos (by omega), decide_eq_false (by omega)]; rfl
  · rw [if_neg (by omega), decide_eq_true (by omega)]; split <;> rfl
end Go.Proofs.Ytldaamgohdnjnaa
