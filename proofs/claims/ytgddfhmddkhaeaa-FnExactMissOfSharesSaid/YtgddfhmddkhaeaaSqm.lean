/-
  A number less its whole part is at most 1.
-/
import Derived.Test.YtgddfhmddkhaeaaFle
import Derived.Test.YtgddfhmddkhaeaaFld
import Derived.Test.YtgddfhmddkhaeaaCAbs
import Derived.Test.YtgddfhmddkhaeaaCFin
import Derived.Test.YtgddfhmddkhaeaaCLes
import Derived.Deep.RegionHeld3
import Derived.Test.YtgddfhmddkhaeaaWmz
import Derived.Test.YtgddfhmddkhaeaaCMea
namespace Go.Proofs.Ytgddfhmddkhaeaa
open Ieee
set_option linter.unusedVariables false
set_option linter.unusedSimpArgs false

/-- The whole part, as an integer. -/
def toI (x : Nat) : Int := ((double.read x).toInt .zero).getD 0
theorem zero_cut (s : Bool) (n drop : Nat) : Toward.zero.cut s n drop = n / 2 ^ (min drop (n.log2 + 2)) := by
  unfold Toward.cut
  simp only [Nat.shiftLeft_eq, Nat.one_mul]
  rfl
/-- The whole part of m * 2 ^ (E - 1074), in units of the least one. -/
theorem whole_part (K : Nat) (hK : K = 1074) (s : Bool) (m E : Nat) : ∃ t, Toward.zero.cut s (m <<< (-1074 + (E : Int)).toNat) (-(-1074 + (E : Int))).toNat = t ∧ t * 2 ^ K ≤ m * 2 ^ E ∧ m * 2 ^ E < (t + 1) * 2 ^ K := by
  rw [zero_cut]
  by_cases h : 1074 ≤ E
  · refine ⟨m * 2 ^ (E - 1074), ?_, ?_, ?_⟩
    · rw [show (-(-1074 + (E : Int))).toNat = 0 by omega, Nat.zero_min, Nat.pow_zero, Nat.div_one, Nat.shiftLeft_eq, show (-1074 + (E : Int)).toNat = E - 1074 by omega]
    · rw [Nat.mul_assoc, ← Nat.pow_add, show E - 1074 + K = E by omega]; exact Nat.le_refl _
    · have : m * 2 ^ E = m * 2 ^ (E - 1074) * 2 ^ K := by rw [Nat.mul_assoc, ← Nat.pow_add, show E - 1074 + K = E by omega]
      rw [this]
      exact Nat.mul_lt_mul_of_pos_right (by omega) (Nat.two_pow_pos _)
  · rw [show (-1074 + (E : Int)).toNat = 0 by omega, Nat.shiftLeft_eq, Nat.pow_zero, Nat.mul_one, show (-(-1074 + (E : Int))).toNat = 1074 - E by omega]
    have hk : ∃ t, m / 2 ^ (min (1074 - E) (m.log2 + 2)) = t ∧ t * 2 ^ (1074 - E) ≤ m ∧ m < (t + 1) * 2 ^ (1074 - E) := by
      by_cases h2 : 1074 - E ≤ m.log2 + 2
      · rw [Nat.min_eq_left h2]
        refine ⟨_, rfl, Nat.div_mul_le_self _ _, ?_⟩
        rw [Nat.mul_comm]
        exact Nat.lt_mul_div_succ _ (Nat.two_pow_pos _)
      · rw [Nat.min_eq_right (by omega)]
        have hlt : m < 2 ^ (m.log2 + 1) := Nat.lt_log2_self
        have h3 : 2 ^ (m.log2 + 1) ≤ 2 ^ (m.log2 + 2) := Nat.pow_le_pow_right (by omega) (by omega)
        have h4 : 2 ^ (m.log2 + 2) ≤ 2 ^ (1074 - E) := Nat.pow_le_pow_right (by omega) (by omega)
        refine ⟨0, Nat.div_eq_of_lt (by omega), by omega, by omega⟩
    obtain ⟨t, ht, h1, h2⟩ := hk
    refine ⟨t, ht, ?_, ?_⟩
    · have := Nat.mul_le_mul_right (2 ^ E) h1
      rwa [Nat.mul_assoc, ← Nat.pow_add, show 1074 - E + E = K by omega] at this
    · have := Nat.mul_lt_mul_of_pos_right h2 (Nat.two_pow_pos E)
      rwa [Nat.mul_assoc, ← Nat.pow_add, show 1074 - E + E = K by omega] at this

theorem toI_spec (K : Nat) (hK : K = 1074) {x : Nat} (h : bd x 52) : ∃ s m, ∃ E t : Nat, double.read x = .number s m (-1074 + E) ∧ toI x = (if s then -(t : Int) else (t : Int)) ∧ t * 2 ^ K ≤ m * 2 ^ E ∧ m * 2 ^ E < (t + 1) * 2 ^ K ∧ t ≤ 4503599627370496 := by
  obtain ⟨s, m, E, hr, hm⟩ := bd_read h
  obtain ⟨t, ht, h1, h2⟩ := whole_part K hK s m E
  refine ⟨s, m, E, t, hr, ?_, h1, h2, ?_⟩
  · unfold toI
    rw [hr]
    simp only [Datum.toInt, Datum.integral]
    rw [ht]
    show signed s t 0 = _
    unfold signed
    simp
  · have h3 : t * 2 ^ K ≤ 2 ^ 52 * 2 ^ K := by
      rw [← Nat.pow_add, show 52 + K = ((52 : Int) + 1074).toNat by omega]; exact Nat.le_trans h1 hm
    exact Nat.le_of_mul_le_mul_right h3 (Nat.two_pow_pos _)

theorem toI_val {x : Nat} (h : bd x 52) : floatToIntVal .f64 x .i64 = some (toI x) := by
  obtain ⟨K, hK⟩ : ∃ K : Nat, K = 1074 := ⟨_, rfl⟩
  obtain ⟨s, m, E, t, hr, ht, _, _, hb⟩ := toI_spec K hK h
  have e : (FloatKind.decode .f64 x).toInt .zero = some (toI x) := by
    unfold toI
    show (double.read x).toInt .zero = some (((double.read x).toInt .zero).getD 0)
    rw [hr]; rfl
  unfold floatToIntVal
  rw [e]
  simp only
  rw [if_pos]
  rw [ht]
  show -9223372036854775808 ≤ (if s = true then -(t : Int) else (t : Int)) ∧ (if s = true then -(t : Int) else (t : Int)) ≤ 9223372036854775807
  split <;> omega

theorem part_bd {x : Nat} (h : bd x 52) : bd (aop .sub .f64 x (floatOfInt .f64 (toI x))) 0 := by
  obtain ⟨K, hK⟩ : ∃ K : Nat, K = 1074 := ⟨_, rfl⟩
  obtain ⟨s, m, E, t, hr, ht, h1, h2, hb⟩ := toI_spec K hK h
  have hI : ∃ u T, ∃ D : Nat, double.read (floatOfInt .f64 (toI x)) = .number u T (-1074 + (D : Int)) ∧ T * 2 ^ D = t * 2 ^ K ∧ (0 < t → u = s) := by
    show ∃ u T, ∃ D : Nat, double.read (double.nearest (toI x < 0) (toI x).natAbs 0) = .number u T (-1074 + (D : Int)) ∧ _
    have hab : (toI x).natAbs = t := by rw [ht]; split <;> omega
    rw [hab]
    by_cases h0 : t = 0
    · subst h0
      exact ⟨_, 0, 0, zero_read _ _, by omega, fun h => by omega⟩
    · have hL : t.log2 ≤ 52 := log2_le_of_lt (by omega) (by omega)
      refine ⟨decide (toI x < 0), t * 2 ^ (52 - t.log2), 1022 + t.log2, ?_, ?_, ?_⟩
      · rw [wide_read _ t 0 (by omega) hL (by omega) (by omega)]
        congr 1
        omega
      · rw [Nat.mul_assoc, ← Nat.pow_add, show 52 - t.log2 + (1022 + t.log2) = K by omega]
      · intro hp
        rw [ht]
        cases s <;> simp <;> omega
  obtain ⟨u, T, D, hq, hT, hu⟩ := hI
  have hd : floatBits .sub .f64 x (floatOfInt .f64 (toI x)) = (((Datum.number s m (-1074 + (E : Int))).sum (.number (!u) T (-1074 + (D : Int)))).map double.write) := by
    show double.sub x _ = _
    unfold Format.sub; rw [hr, hq]; rfl
  have hsum : ∃ d, (Datum.number s m (-1074 + (E : Int))).sum (.number (!u) T (-1074 + (D : Int))) = some d ∧ bd (double.write d) 0 := by
    simp only [Datum.sum]
    refine ⟨_, rfl, ?_⟩
    generalize hbase : min (-1074 + (E : Int)) (-1074 + (D : Int)) = base
    have k1 : (-1074 + (E : Int) - base).toNat + min E D = E := by omega
    have k2 : (-1074 + (D : Int) - base).toNat + min E D = D := by omega
    show bd (double.nearest _ (signed s m (-1074 + (E : Int) - base).toNat + signed (!u) T (-1074 + (D : Int) - base).toNat).natAbs base) 0
    refine bd_nearest _ _ _ _ (by omega) (by omega) 1074 (by omega) (by omega) ?_
    rw [show (base + (1074 : Nat)).toNat = min E D by omega, show ((0 : Int) + (1074 : Nat)).toNat = K by omega]
    have e1 : m * 2 ^ (-1074 + (E : Int) - base).toNat * 2 ^ (min E D) = m * 2 ^ E := by rw [Nat.mul_assoc, ← Nat.pow_add, k1]
    have e2 : T * 2 ^ (-1074 + (D : Int) - base).toNat * 2 ^ (min E D) = t * 2 ^ K := by rw [Nat.mul_assoc, ← Nat.pow_add, k2, hT]
    rw [signed_mag, signed_mag]
    generalize m * 2 ^ (-1074 + (E : Int) - base).toNat = A at *
    generalize T * 2 ^ (-1074 + (D : Int) - base).toNat = C at *
    have hle : C ≤ A := by
      have : C * 2 ^ (min E D) ≤ A * 2 ^ (min E D) := by rw [e1, e2]; exact h1
      exact Nat.le_of_mul_le_mul_right this (Nat.two_pow_pos _)
    have hna : ((if s = true then -(A : Int) else (A : Int)) + (if (!u) = true then -(C : Int) else (C : Int))).natAbs = A - C := by
      by_cases hC : C = 0
      · subst hC; cases s <;> cases u <;> simp <;> omega
      · have h0 : 0 < t := by
          rcases Nat.eq_zero_or_pos t with h | h
          · subst h; rw [Nat.zero_mul] at e2
            have := Nat.mul_eq_zero.1 e2
            have := Nat.two_pow_pos (min E D)
            omega
          · exact h
        rw [hu h0]
        cases s <;> simp <;> omega
    rw [hna, Nat.sub_mul, e1, e2, Nat.add_mul] at *
    omega
  obtain ⟨d, h3, h4⟩ := hsum
  rw [h3] at hd
  rw [aop_some hd]; exact h4
end Go.Proofs.Ytgddfhmddkhaeaa

/-
  The sine of turns, as a plain function of words, and how great what comes on the way can be.
-/
namespace Go.Proofs.Ytgddfhmddkhaeaa
open Ieee
set_option linter.unusedVariables false
set_option linter.unusedSimpArgs false

theorem ex_of_bd {op : BinOp} {x y : Nat} {e : Int} (h : bd (aop op .f64 x y) e) : floatBits op .f64 x y = some (aop op .f64 x y) := by
  unfold aop at *
  cases h1 : floatBits op .f64 x y with
  | some r => rfl
  | none => rw [h1] at h; have := bd_nan h; rw [show (none : Option Nat).getD (nanOf .f64) = nanOf .f64 from rfl, isN_nanOf] at this; cases this
theorem fopR_some {op : BinOp} {k : FloatKind} {x y r : Nat} (h : floatBits op k x y = some r) (w : World) : fopR op k x y w = r := by unfold fopR; rw [h]; rfl
theorem fopN_some {op : BinOp} {k : FloatKind} {x y r : Nat} (h : floatBits op k x y = some r) : fopN op k x y = 0 := by unfold fopN; rw [h]; rfl
theorem fopR_ex {op : BinOp} {x y : Nat} {e : Int} (h : bd (aop op .f64 x y) e) (w : World) : fopR op .f64 x y w = aop op .f64 x y := fopR_some (ex_of_bd h) w
theorem fopN_ex {op : BinOp} {x y : Nat} {e : Int} (h : bd (aop op .f64 x y) e) : fopN op .f64 x y = 0 := fopN_some (ex_of_bd h)

/-- 'int64' of a small number, in a run. -/
theorem run_toI {P : Program} {src dst : TypeId} (hs : P.underlying src = some (.float .f64)) (hd : P.underlying dst = some (.int .i64)) {x : Nat} (h : bd x 52) (w : World) :
    (convert src dst (.float .f64 x)).run P w = .ok (.int .i64 (toI x)) w :=
  run_convert_float_int w src dst .f64 .i64 x (toI x) (by rw [hs]; rfl) hd (toI_val h)

def ge64 (x c : Nat) : Bool := double.order x c == some .gt || double.order x c == some .eq
def gt64 (x c : Nat) : Bool := double.order x c == some .gt
def lt64 (x c : Nat) : Bool := double.order x c == some .lt
def one64 : Nat := 4607182418800017408
def half64 : Nat := 4602678819172646912
def quar64 : Nat := 4598175219545276416
def tau64 : Nat := 4618760256179416344

/-- What is left of turns. -/
def tfrac (x : Nat) : Nat := aop .sub .f64 x (floatOfInt .f64 (toI x))
def tpart (x : Nat) : Nat := if lt64 (tfrac x) 0 then aop .add .f64 (tfrac x) one64 else tfrac x
theorem bd_one : bd one64 0 := by unfold bd one64; decide +kernel
theorem bd_half : bd half64 (-1) := by unfold bd half64; decide +kernel
theorem bd_quar : bd quar64 (-2) := by unfold bd quar64; decide +kernel
theorem bd_tau : bd tau64 3 := by unfold bd tau64; decide +kernel
theorem tfrac_bd {x : Nat} (h : bd x 52) : bd (tfrac x) 0 := part_bd h
theorem tadd_bd {x : Nat} (h : bd x 52) : bd (aop .add .f64 (tfrac x) one64) 1 := bd_add (tfrac_bd h) bd_one (by omega) (by omega) (by omega)
theorem tpart_bd {x : Nat} (h : bd x 52) : bd (tpart x) 1 := by
  unfold tpart
  split
  · exact tadd_bd h
  · exact bd_mono (tfrac_bd h) (by omega) (by omega)

/-- 2 k (2 k + 1). -/
def dk (k : Nat) : Nat := floatOfInt .f64 ((2 * k * (2 * k + 1) : Nat) : Int)
def kw (k : Nat) : Nat := floatOfInt .f64 (k : Int)
theorem dk_lb : ∀ k, k < 9 → 1 ≤ k → lb (dk k) 2 := by unfold lb dk; decide +kernel
def sinTo (u : Nat) : Nat → Nat
  | 0 => one64
  | i + 1 => aop .sub .f64 one64 (aop .quo .f64 (aop .mul .f64 u (sinTo u i)) (dk (8 - i)))
theorem sin_mul {u : Nat} {i : Nat} (hu : bd u 12) (hi : i ≤ 8) (h : bd (sinTo u i) (11 * i)) : bd (aop .mul .f64 u (sinTo u i)) (12 + 11 * i) := bd_mul hu h (by omega) (by omega)
theorem sin_quo {u : Nat} {i : Nat} (hu : bd u 12) (hi : i < 8) (h : bd (sinTo u i) (11 * i)) : bd (aop .quo .f64 (aop .mul .f64 u (sinTo u i)) (dk (8 - i))) (12 + 11 * i - 2) :=
  bd_quo (sin_mul hu (by omega) h) (dk_lb (8 - i) (by omega) (by omega)) (by omega) (by omega)
theorem sin_sub {u : Nat} {i : Nat} (hu : bd u 12) (hi : i < 8) (h : bd (sinTo u i) (11 * i)) : bd (sinTo u (i + 1)) (11 * (i + 1 : Nat)) := by
  unfold sinTo
  exact bd_sub bd_one (sin_quo hu hi h) (by omega) (by omega) (by omega)
theorem sin_bd {u : Nat} (hu : bd u 12) : ∀ i, i ≤ 8 → bd (sinTo u i) (11 * i)
  | 0, _ => bd_one
  | i + 1, h => sin_sub hu (by omega) (sin_bd hu i (by omega))

def sfold1 (f : Nat) : Nat := if ge64 f half64 then aop .sub .f64 f half64 else f
def sfold (f : Nat) : Nat := if gt64 (sfold1 f) quar64 then aop .sub .f64 half64 (sfold1 f) else sfold1 f
def sz (f : Nat) : Nat := aop .mul .f64 (sfold f) tau64
def su (f : Nat) : Nat := aop .mul .f64 (sz f) (sz f)
def sr0 (f : Nat) : Nat := aop .mul .f64 (sz f) (sinTo (su f) 8)
/-- The sine of what is left of turns. -/
def sineF (f : Nat) : Nat := if ge64 f half64 then Op.negFloat .f64 (sr0 f) else sr0 f
theorem fold1_sub {f : Nat} (h : bd f 1) : bd (aop .sub .f64 f half64) 2 := bd_sub h bd_half (by omega) (by omega) (by omega)
theorem fold1_bd {f : Nat} (h : bd f 1) : bd (sfold1 f) 2 := by
  unfold sfold1
  split
  · exact fold1_sub h
  · exact bd_mono h (by omega) (by omega)
theorem fold_sub {f : Nat} (h : bd f 1) : bd (aop .sub .f64 half64 (sfold1 f)) 3 := bd_sub bd_half (fold1_bd h) (by omega) (by omega) (by omega)
theorem fold_bd {f : Nat} (h : bd f 1) : bd (sfold f) 3 := by
  unfold sfold
  split
  · exact fold_sub h
  · exact bd_mono (fold1_bd h) (by omega) (by omega)
theorem sz_bd {f : Nat} (h : bd f 1) : bd (sz f) 6 := bd_mul (fold_bd h) bd_tau (by omega) (by omega)
theorem su_bd {f : Nat} (h : bd f 1) : bd (su f) 12 := bd_mul (sz_bd h) (sz_bd h) (by omega) (by omega)
theorem sr0_bd {f : Nat} (h : bd f 1) : bd (sr0 f) 94 := bd_mul (sz_bd h) (sin_bd (su_bd h) 8 (by omega)) (by omega) (by omega)
theorem neg_bd {x : Nat} {e : Int} (h : bd x e) : bd (Op.negFloat .f64 x) e := by
  obtain ⟨h1, h2, h3⟩ := h
  refine ⟨h1, h2, ?_⟩
  have : Op.negFloat .f64 x % 9223372036854775808 = x % 9223372036854775808 := by
    show (x ^^^ 2 ^ 63) % 2 ^ 63 = x % 2 ^ 63
    rw [Nat.xor_mod_two_pow, Nat.mod_self, Nat.xor_zero]
  rw [this]; exact h3
theorem sineF_bd {f : Nat} (h : bd f 1) : bd (sineF f) 94 := by
  unfold sineF
  split
  · exact neg_bd (sr0_bd h)
  · exact sr0_bd h

/-- The counter of the program's loop is a float. -/
theorem kw_mul : ∀ k, k < 9 → floatBits .mul .f64 4611686018427387904 (kw k) = some (kw (2 * k)) := by unfold kw; decide +kernel
theorem kw_add : ∀ k, k < 9 → floatBits .add .f64 (kw (2 * k)) 4607182418800017408 = some (kw (2 * k + 1)) := by unfold kw; decide +kernel
theorem kw_dk : ∀ k, k < 9 → floatBits .mul .f64 (kw (2 * k)) (kw (2 * k + 1)) = some (dk k) := by unfold kw dk; decide +kernel
theorem kw_pred : ∀ k, k < 9 → 1 ≤ k → floatBits .sub .f64 (kw k) 4607182418800017408 = some (kw (k - 1)) := by unfold kw; decide +kernel
theorem kw_ge : ∀ k, k < 9 → (((FloatKind.format .f64).order (kw k) 4607182418800017408 == some Ordering.gt) || ((FloatKind.format .f64).order (kw k) 4607182418800017408 == some Ordering.eq)) = decide (1 ≤ k) := by unfold kw; decide +kernel
theorem kw_lt : ∀ k, k < 9 → 1 ≤ k → kw (k - 1) < kw k := by unfold kw; decide +kernel
theorem kw_8 : kw 8 = 4620693217682128896 := by unfold kw; decide +kernel
end Go.Proofs.Ytgddfhmddkhaeaa

/-
  Doubling and halving are exact; lower bounds.
-/
namespace Go.Proofs.Ytgddfhmddkhaeaa
open Ieee
set_option linter.unusedVariables false
set_option linter.unusedSimpArgs false

theorem log2_scale {m : Nat} (k : Nat) (h : 0 < m) : (m * 2 ^ k).log2 = m.log2 + k := by
  obtain ⟨b1, b2⟩ := log2_bounds h
  refine (Nat.log2_eq_iff (Nat.mul_ne_zero (by omega) (by have := Nat.two_pow_pos k; omega))).2 ⟨?_, ?_⟩
  · rw [Nat.pow_add]; exact Nat.mul_le_mul_right _ b1
  · rw [show m.log2 + k + 1 = (m.log2 + 1) + k by omega, Nat.pow_add]; exact Nat.mul_lt_mul_of_pos_right b2 (Nat.two_pow_pos _)
theorem cut_scale (s : Bool) (m k d : Nat) (h : 0 < m) : Toward.even.cut s (m * 2 ^ k) (d + k) = Toward.even.cut s m d := by
  unfold Toward.cut
  have hk := Nat.two_pow_pos k
  have hg : min (d + k) ((m * 2 ^ k).log2 + 2) = min d (m.log2 + 2) + k := by rw [log2_scale k h]; omega
  simp only [hg, Nat.shiftLeft_eq, Nat.one_mul]
  generalize min d (m.log2 + 2) = g
  have e1 : m * 2 ^ k / 2 ^ (g + k) = m / 2 ^ g := by rw [Nat.pow_add]; exact Nat.mul_div_mul_right _ _ hk
  have e2 : m * 2 ^ k % 2 ^ (g + k) = m % 2 ^ g * 2 ^ k := by rw [Nat.pow_add]; exact Nat.mul_mod_mul_right _ _ _
  rw [e1, e2, Nat.pow_add]
  have e3 : (2 ^ g * 2 ^ k < 2 * (m % 2 ^ g * 2 ^ k)) ↔ (2 ^ g < 2 * (m % 2 ^ g)) := by
    rw [← Nat.mul_assoc]; exact ⟨fun h => Nat.lt_of_mul_lt_mul_right h, fun h => Nat.mul_lt_mul_of_pos_right h hk⟩
  have e4 : (2 ^ g * 2 ^ k = 2 * (m % 2 ^ g * 2 ^ k)) ↔ (2 ^ g = 2 * (m % 2 ^ g)) := by
    rw [← Nat.mul_assoc]; exact ⟨fun h => Nat.eq_of_mul_eq_mul_right hk h, fun h => congrArg (fun t => t * 2 ^ k) h⟩
  congr 1
  congr 1
  rw [decide_eq_decide.2 e3]
  congr 1
  congr 1
  rw [Bool.eq_iff_iff, beq_iff_eq, beq_iff_eq]
  exact e4
theorem cut_exact (s : Bool) (m k d : Nat) (h : 0 < m) (hd : d ≤ k) : Toward.even.cut s (m * 2 ^ k) d = m * 2 ^ (k - d) := by
  have : m * 2 ^ k = (m * 2 ^ (k - d)) * 2 ^ d := by rw [Nat.mul_assoc, ← Nat.pow_add, show k - d + d = k by omega]
  rw [this]
  have h2 := cut_scale s (m * 2 ^ (k - d)) d 0 (Nat.mul_pos h (Nat.two_pow_pos _))
  rw [Nat.zero_add, cut_zero] at h2
  exact h2
/-- The nearest word does not mind where the point is. -/
theorem nearest_scale (f : Format) (s : Bool) (m k : Nat) (p : Int) (h : 0 < m) : f.nearest s (m * 2 ^ k) p = f.nearest s m (p + k) := by
  unfold Format.nearest
  have hk := Nat.two_pow_pos k
  rw [if_neg (Nat.mul_ne_zero (by omega) (by omega)), if_neg (by omega)]
  rw [log2_scale k h]
  have e0 : p + ((m.log2 + k : Nat) : Int) - (f.fractionBits : Int) = p + (k : Int) + (m.log2 : Int) - (f.fractionBits : Int) := by omega
  simp only [e0]
  generalize max (p + (k : Int) + (m.log2 : Int) - (f.fractionBits : Int)) f.leastPlace = last
  have e1 : Toward.even.cut s ((m * 2 ^ k) <<< (p - last).toNat) (last - p).toNat = Toward.even.cut s (m <<< (p + (k : Int) - last).toNat) (last - (p + (k : Int))).toNat := by
    rw [Nat.shiftLeft_eq, Nat.shiftLeft_eq]
    by_cases h1 : last ≤ p
    · rw [show (last - p).toNat = 0 by omega, show (last - (p + (k : Int))).toNat = 0 by omega, cut_zero, cut_zero, Nat.mul_assoc, ← Nat.pow_add]
      congr 2; omega
    · rw [show (p - last).toNat = 0 by omega, Nat.pow_zero, Nat.mul_one]
      by_cases h2 : last ≤ p + k
      · rw [show (last - (p + (k : Int))).toNat = 0 by omega, cut_zero, cut_exact s m k _ h (by omega)]
        congr 2; omega
      · rw [show (p + (k : Int) - last).toNat = 0 by omega, Nat.pow_zero, Nat.mul_one, show (last - p).toNat = (last - (p + (k : Int))).toNat + k by omega, cut_scale s m k _ h]
  rw [e1]

theorem write_num (s : Bool) (m : Nat) (p : Int) : double.write (.number s m p) = double.nearest s m p := rfl
/-- A normal positive word, read. -/
theorem normal_read {r : Nat} (h1 : 4503599627370496 ≤ r) (h2 : r < 9218868437227405312) : double.read r = .number false (4503599627370496 + r % 4503599627370496) (-1074 + (r / 4503599627370496 - 1 : Nat)) := by
  have e : double.word false r = r := rfl
  rw [← e, read_word _ _ (by rw [d_sign]; omega), d_binade, d_inf, d_least, e, if_neg (by omega), if_pos h2]
theorem normal_near {r : Nat} (h1 : 4503599627370496 ≤ r) (h2 : r < 9218868437227405312) : double.nearest false (4503599627370496 + r % 4503599627370496) (-1074 + (r / 4503599627370496 - 1 : Nat)) = r := by
  have hl : (4503599627370496 + r % 4503599627370496).log2 = 52 := (Nat.log2_eq_iff (by omega)).2 ⟨by omega, by omega⟩
  obtain ⟨e, _, _⟩ := wide_nearest false (4503599627370496 + r % 4503599627370496) (-1074 + (r / 4503599627370496 - 1 : Nat)) (by omega) (by omega) (by omega) (by omega)
  rw [e, hl]
  show (_ : Int).toNat * 4503599627370496 + _ * 2 ^ (52 - 52) = r
  rw [show ((-1074 + (r / 4503599627370496 - 1 : Nat) : Int) + (52 : Nat) + 1022).toNat = r / 4503599627370496 - 1 by omega]
  omega
theorem mul_two {r : Nat} (h1 : 4503599627370496 ≤ r) (h2 : r < 9214364837600034816) : floatBits .mul .f64 r 4611686018427387904 = some (r + 4503599627370496) := by
  show double.mul r 4611686018427387904 = _
  unfold Format.mul
  rw [normal_read h1 (by omega), show double.read 4611686018427387904 = .number false 4503599627370496 (-51) by decide +kernel]
  simp only [Datum.product, Option.map_some]
  show some (double.nearest (false ^^ false) _ _) = _
  have e := normal_near (r := r + 4503599627370496) (by omega) (by omega)
  rw [show (r + 4503599627370496) % 4503599627370496 = r % 4503599627370496 by omega, show (r + 4503599627370496) / 4503599627370496 - 1 = r / 4503599627370496 by omega] at e
  have h3 := nearest_scale double false (4503599627370496 + r % 4503599627370496) 52 (-1074 + (r / 4503599627370496 - 1 : Nat) + -51) (by omega)
  rw [show (2 : Nat) ^ 52 = 4503599627370496 by decide] at h3
  rw [show (false ^^ false) = false from rfl, h3, ← e]
  congr 2
  omega
theorem quo_unit (s t : Bool) (M K D : Nat) (i j : Int) (hl : M.log2 = 52) (hK : K.log2 = 52) (hK0 : 0 < K) (h4 : 2 ^ 54 = 4 * K) (hD : D = 54) :
    (Datum.number s M i).quotient D (.number t K j) = some (.number (s ^^ t) (M * 2 ^ 3) (i - j - 54 - 1)) := by
  simp only [Datum.quotient]
  rw [if_neg (by omega), hl, hK, show D + 52 - 52 = 54 by omega, Nat.shiftLeft_eq, h4, ← Nat.mul_assoc]
  have hd : M * 4 * K / K = M * 4 := Nat.mul_div_cancel _ hK0
  have hm : M * 4 * K % K = 0 := Nat.mul_mod_left _ _
  rw [hd, hm]
  have h8 : 2 * (M * 4) + ((0 : Nat) != 0).toNat = M * 2 ^ 3 := by
    show 2 * (M * 4) + 0 = M * 2 ^ 3
    omega
  rw [h8]
  rfl
theorem div_of {x y : Nat} {d e g : Datum} (hx : double.read x = d) (hy : double.read y = e) (h : d.quotient 54 e = some g) : floatBits .quo .f64 x y = some (double.write g) := by
  show (Option.map double.write ((double.read x).quotient 54 (double.read y))) = _
  rw [hx, hy, h]; rfl
theorem quo_two {r : Nat} (h1 : 9007199254740992 ≤ r) (h2 : r < 9218868437227405312) : floatBits .quo .f64 r 4611686018427387904 = some (r - 4503599627370496) := by
  have hl : (4503599627370496 + r % 4503599627370496).log2 = 52 := (Nat.log2_eq_iff (by omega)).2 ⟨by omega, by omega⟩
  have hl2 : (4503599627370496 : Nat).log2 = 52 := by decide +kernel
  have h4 : (2 : Nat) ^ 54 = 4 * 4503599627370496 := by decide
  have hq := quo_unit false false (4503599627370496 + r % 4503599627370496) 4503599627370496 54 (-1074 + (r / 4503599627370496 - 1 : Nat)) (-51) hl hl2 (by omega) h4 rfl
  rw [div_of (normal_read (by omega) h2) (show double.read 4611686018427387904 = .number false 4503599627370496 (-51) by decide +kernel) hq, write_num]
  have e := normal_near (r := r - 4503599627370496) (by omega) (by omega)
  rw [show (r - 4503599627370496) % 4503599627370496 = r % 4503599627370496 by omega, show (r - 4503599627370496) / 4503599627370496 - 1 = r / 4503599627370496 - 2 by omega] at e
  have hM0 : 0 < 4503599627370496 + r % 4503599627370496 := by omega
  have hp : (-1074 + (r / 4503599627370496 - 1 : Nat) - -51 - 54 - 1 : Int) + (3 : Nat) = -1074 + (r / 4503599627370496 - 2 : Nat) := by omega
  generalize 4503599627370496 + r % 4503599627370496 = M at *
  generalize (-1074 + (r / 4503599627370496 - 1 : Nat) - -51 - 54 - 1 : Int) = pl at *
  have h3 := nearest_scale double false M 3 pl hM0
  rw [show (false ^^ false) = false from rfl, h3, hp, e]
end Go.Proofs.Ytgddfhmddkhaeaa

/-
  The absolute value of a finite 32-bit float: by way of 64 bits, and by its sign.
-/
namespace Go.Proofs.Ytgddfhmddkhaeaa
open Ieee Go.RowKit
set_option linter.unusedVariables false

theorem single_near (s : Bool) {m : Nat} {p : Int} (hm : m < 16777216) (hp : -149 ≤ p) (hp2 : p ≤ 104) (h : m < 8388608 → p = -149) :
    single.nearest s m p = single.word s ((p + 149).toNat * 8388608 + m) := by
  unfold Format.nearest
  by_cases h0 : m = 0
  · have hp0 := h (by omega)
    subst h0 hp0
    rw [if_pos rfl]; rfl
  · rw [if_neg h0]
    have hf : (single.fractionBits : Int) = 23 := rfl
    have hl := log2_lt24 hm
    have hlast : max (p + (m.log2 : Int) - (single.fractionBits : Int)) single.leastPlace = p := by
      rw [hf, s_least]
      by_cases h1 : m < 8388608
      · have := h h1; omega
      · have : m.log2 = 23 := (Nat.log2_eq_iff (by omega)).2 ⟨by omega, by omega⟩
        omega
    simp only [hlast]
    simp only [s_least, s_binade, s_inf]
    rw [show (p - p).toNat = 0 by omega, show (p - -149).toNat = (p + 149).toNat by omega, cut_zero, Nat.shiftLeft_eq, Nat.pow_zero, Nat.mul_one]
    rw [Nat.min_eq_left (by omega)]
theorem single_parts {x m : Nat} {s : Bool} {p : Int} (h : single.read x = .number s m p) : m < 16777216 ∧ -149 ≤ p ∧ p ≤ 104 ∧ (m < 8388608 → p = -149) ∧ (p + 149).toNat * 8388608 + m = x % 2147483648 ∧ x % 2147483648 < 2139095040 := by
  unfold Format.read at h
  simp only [s_sign, s_binade, s_inf, s_least] at h
  generalize x % 2147483648 = r at *
  by_cases h1 : r < 8388608
  · rw [if_pos h1] at h
    injection h with _ e1 e2
    subst e1 e2
    exact ⟨by omega, by omega, by omega, fun _ => rfl, by omega, by omega⟩
  · rw [if_neg h1] at h
    by_cases h2 : r < 2139095040
    · rw [if_pos h2] at h
      injection h with _ e1 e2
      subst e1 e2
      exact ⟨by omega, by omega, by omega, fun hh => by omega, by omega, by omega⟩
    · rw [if_neg h2] at h
      split at h <;> cases h
theorem word_false (r : Nat) : single.word false r = r := rfl
theorem single_back {x m : Nat} {s : Bool} {p : Int} (h : single.read x = .number s m p) : single.nearest false m p = x % 2147483648 := by
  obtain ⟨h1, h2, h3, h4, h5, _⟩ := single_parts h
  rw [single_near false h1 h2 h3 h4, h5]; rfl
theorem mag_read {y m : Nat} {s : Bool} {p : Int} (h : double.read y = .number s m p) : double.read (y % 9223372036854775808) = .number false m p := by
  unfold Format.read at h ⊢
  simp only [d_sign, d_binade, d_inf, d_least] at h ⊢
  rw [Nat.mod_mod]
  have e : (y % 9223372036854775808 / 9223372036854775808 % 2 == 1) = false := by rw [beq_eq_false_iff_ne]; omega
  rw [e]
  generalize y % 9223372036854775808 = r at *
  by_cases h1 : r < 4503599627370496
  · rw [if_pos h1] at h ⊢
    injection h with _ e1 e2
    subst e1 e2
    rfl
  · rw [if_neg h1] at h ⊢
    by_cases h2 : r < 9218868437227405312
    · rw [if_pos h2] at h ⊢
      injection h with _ e1 e2
      subst e1 e2
      rfl
    · rw [if_neg h2] at h
      split at h <;> cases h
theorem fin_read {x : Nat} (h : fin .f32 x = true) : ∃ s m p, single.read x = .number s m p := by
  unfold fin isN isI at h
  cases hr : single.read x with
  | number s m p => exact ⟨s, m, p, rfl⟩
  | infinity s => rw [show (FloatKind.format .f32).read x = .infinity s from hr] at h; simp [Datum.isNaN, Datum.isInfinity] at h
  | nan s t => rw [show (FloatKind.format .f32).read x = .nan s t from hr] at h; simp [Datum.isNaN, Datum.isInfinity] at h
theorem wide_mag {x : Nat} (h : fin .f32 x = true) : isN .f64 (awide x % 9223372036854775808) = false ∧ single.write (double.read (awide x % 9223372036854775808)) = x % 2147483648 := by
  obtain ⟨s, m, p, hr⟩ := fin_read h
  have hN : isN .f32 x = false := by
    unfold fin at h
    cases h2 : isN .f32 x
    · rfl
    · rw [h2] at h; cases h
  refine ⟨by rw [abs_nan, isN_awide]; exact hN, ?_⟩
  have hw := awide_read hr
  by_cases h0 : m = 0
  · rw [if_pos h0] at hw
    rw [mag_read hw]
    show single.nearest false 0 (-1074) = _
    rw [← single_back hr, h0]
    unfold Format.nearest
    rw [if_pos rfl, if_pos rfl]
  · rw [if_neg h0] at hw
    rw [mag_read hw]
    show single.nearest false (m * 2 ^ (52 - m.log2)) (p + m.log2 - 52) = _
    have hl := log2_lt24 (single_parts hr).1
    rw [nearest_scale single false m _ _ (by omega), ← single_back hr]
    congr 1
    omega
theorem anar_mag {x : Nat} (h : fin .f32 x = true) : anar (awide x % 9223372036854775808) = x % 2147483648 := by
  unfold anar
  rw [(wide_mag h).1, if_neg (by simp)]
  exact (wide_mag h).2
theorem narOk_mag {x : Nat} (h : fin .f32 x = true) : narOk (awide x % 9223372036854775808) := by
  intro hN
  obtain ⟨s, m, p, hr⟩ := fin_read h
  have hw := awide_read hr
  have hm2 := (wide_mag h).2
  have hlt := (single_parts hr).2.2.2.2.2
  have key : ∃ M P, double.read (awide x % 9223372036854775808) = .number false M P := by
    by_cases h0 : m = 0
    · rw [if_pos h0] at hw; exact ⟨_, _, mag_read hw⟩
    · rw [if_neg h0] at hw; exact ⟨_, _, mag_read hw⟩
  obtain ⟨M, P, hk⟩ := key
  rw [hk] at hm2
  unfold floatToFloatBits
  rw [if_neg (by decide), show FloatKind.decode .f64 (awide x % 9223372036854775808) = .number false M P from hk]
  have e : FloatKind.decode .f32 (FloatKind.encode .f32 (.number false M P)) = single.read (x % 2147483648) := by
    show single.read (single.write (.number false M P)) = _
    rw [hm2]
  have hi : (single.read (x % 2147483648)).isInfinity = false := by
    unfold Format.read
    simp only [s_sign, s_binade, s_inf, s_least]
    rw [Nat.mod_mod]
    generalize x % 2147483648 = r at *
    by_cases h1 : r < 8388608
    · rw [if_pos h1]; rfl
    · rw [if_neg h1, if_pos hlt]; rfl
  simp only [e, hi]
  rfl
theorem neg_mag {x : Nat} (h1 : 2147483648 ≤ x) (h2 : x < 4294967296) : Op.negFloat .f32 x = x % 2147483648 := by
  have e : Op.negFloat .f32 x % 2147483648 = x % 2147483648 := by
    show (x ^^^ 2 ^ 31) % 2 ^ 31 = x % 2 ^ 31
    rw [Nat.xor_mod_two_pow, Nat.mod_self, Nat.xor_zero]
  have hlt : Op.negFloat .f32 x < 2147483648 := by
    show x ^^^ 2 ^ 31 < 2 ^ 31
    refine Nat.lt_pow_two_of_testBit _ fun i hi => ?_
    rw [Nat.testBit_xor, Nat.testBit_two_pow]
    rcases Nat.lt_or_ge 31 i with h3 | h3
    · rw [Nat.testBit_lt_two_pow (Nat.lt_of_lt_of_le (show x < 2 ^ 32 by omega) (Nat.pow_le_pow_right (by omega) h3)), decide_eq_false (by omega)]; rfl
    · obtain rfl : i = 31 := by omega
      rw [decide_eq_true rfl, Nat.testBit_eq_decide_div_mod_eq, show x / 2 ^ 31 = 1 by omega]; rfl
  omega
end Go.Proofs.Ytgddfhmddkhaeaa

/-
  Sums of squares around a number, in both packages.
-/
namespace Go.Proofs.Ytgddfhmddkhaeaa
open Ieee Go.RowKit
set_option linter.unusedVariables false

/-- The sum of the first k products. -/
def dotTo (zs ys : List Nat) : Nat → Nat
  | 0 => 0
  | k + 1 => aop .add .f32 (dotTo zs ys k) (aop .mul .f32 (cn .f32 (zs.getD k 0)) (cn .f32 (ys.getD k 0)))
theorem dot_step {zs ys : List Nat} {k s z y : Nat} (hs : cn .f32 s = dotTo zs ys k) (hz : zs.getD k 0 = z) (hy : ys.getD k 0 = y) (w1 w2 : World) :
    cn .f32 (fopR .add .f32 s (fopR .mul .f32 z y w1) w2) = dotTo zs ys (k + 1) := by
  rw [cn_fopR, cn_fopR, hs, ← hz, ← hy]; rfl
/-- The sum of the first k squares of numbers less another one. -/
def sqTo (zs : List Nat) (m : Nat) : Nat → Nat
  | 0 => 0
  | k + 1 => aop .add .f32 (sqTo zs m k) (aop .mul .f32 (aop .sub .f32 (cn .f32 (zs.getD k 0)) m) (aop .sub .f32 (cn .f32 (zs.getD k 0)) m))
theorem dot_less {rs zs : List Nat} {m : Nat} (h : cnl rs = less32 zs m) : ∀ k, k ≤ zs.length → dotTo rs rs k = sqTo zs m k := by
  intro k
  induction k with
  | zero => intro _; rfl
  | succ k ih =>
    intro hk
    have hl : rs.length = zs.length := by rw [← cnl_len, h, less_len]
    have hz : cn .f32 (rs.getD k 0) = aop .sub .f32 (cn .f32 (zs.getD k 0)) m := by
      rw [← cnl_at (by omega), h]
      unfold less32
      simp [List.getD, show k < zs.length by omega]
    unfold dotTo sqTo
    rw [ih (by omega), hz]
theorem sq_step {zs : List Nat} {k s z x m : Nat} (hs : cn .f32 s = sqTo zs m k) (hz : zs.getD k 0 = z) (hm : cn .f32 x = m) (w1 w2 w3 : World) :
    cn .f32 (fopR .add .f32 s (fopR .mul .f32 (fopR .sub .f32 z x w1) (fopR .sub .f32 z x w1) w2) w3) = sqTo zs m (k + 1) := by
  rw [cn_fopR, cn_fopR, cn_fopR, hs, ← hz, hm]; rfl

theorem l02Dot_any (a a' : Option Addr) (len cap cap' : Nat) (zs ys : List Nat) (w : World) (h : FSl w a len zs) (h' : FSl w a' len ys) (hl : len ≤ 1048576) :
    Calls Try.prog 126 #[.slice a len cap, .slice a' len cap'] w (RetF .f32 (dotTo zs ys len) w) := by
  have H := Lib.hid h
  have H' := Lib.hid h'
  clear h h'
  go_enter Try.func126, Try.ntmps126
  go_wp2
  go_loopw [5, 6] (fun s i wr => ∃ k n r : Nat, k ≤ len ∧ i = .int .i64 k ∧ s = .float .f32 r ∧ wr = w.drewN n ∧ Hid (cn .f32 r = dotTo zs ys k)) (fun _ i _ => len - (intOf i).toNat)
  case atStart => exact ⟨0, 0, 0, Nat.zero_le _, rfl, rfl, rfl, Lib.hid cn_zero⟩
  case round =>
    obtain ⟨k, n, r, hk, rfl, rfl, rfl, hr⟩ := hrel
    by_cases hlt : k < len
    · obtain ⟨b, off, rfl, hb, hc⟩ := H.out.at (by omega)
      obtain ⟨b', off', rfl, hb', hc'⟩ := H'.out.at (by omega)
      have hck := hc k hlt
      have hck' := hc' k hlt
      have hstep := Lib.hid (fun w1 w2 => dot_step hr.out rfl rfl w1 w2)
      generalize zs.getD k 0 = z at *
      generalize ys.getD k 0 = y at *
      clear hc hc' hb hb' H H' hr
      go_wp2
      go_region
      all_goals
        go_wp2
        go_roundw
        case rel => exact ⟨k + 1, _, _, by omega, by go_num, rfl, rfl, Lib.hid (hstep.out _ _)⟩
        case measure => simp [intOf]; omega
    · have e : k = len := by omega
      subst e
      clear H H'
      go_wp2
      go_ret
      exact ⟨r, n, hr.out, rfl, rfl⟩

theorem implSquares_any (a : Option Addr) (len cap : Nat) (zs : List Nat) (x : Nat) (w : World) (h : FSl w a len zs) (hl : len ≤ 1048576) :
    Calls Try.prog 73 #[.slice a len cap, .float .f32 x] w (RetF .f32 (sqTo zs (cn .f32 x) len) w) := by
  have H := Lib.hid h
  clear h
  go_enter Try.func73, Try.ntmps73
  go_wp2
  go_loopw [5, 11] (fun s i wr => ∃ k n r : Nat, k ≤ len ∧ i = .int .i64 k ∧ s = .float .f32 r ∧ wr = w.drewN n ∧ Hid (cn .f32 r = sqTo zs (cn .f32 x) k)) (fun _ i _ => len - (intOf i).toNat)
  case atStart => exact ⟨0, 0, 0, Nat.zero_le _, rfl, rfl, rfl, Lib.hid cn_zero⟩
  case round =>
    obtain ⟨k, n, r, hk, rfl, rfl, rfl, hr⟩ := hrel
    by_cases hlt : k < len
    · obtain ⟨b, off, rfl, hb, hc⟩ := H.out.at (by omega)
      have hck := hc k hlt
      have hstep := Lib.hid (fun w1 w2 w3 => sq_step (x := x) hr.out rfl rfl w1 w2 w3)
      generalize zs.getD k 0 = z at *
      clear hc hb H hr
      go_wp2
      go_roundw
      case rel => exact ⟨k + 1, _, _, by omega, by go_num, rfl, rfl, Lib.hid (hstep.out _ _ _)⟩
      case measure => simp [intOf]; omega
    · have e : k = len := by omega
      subst e
      clear H
      go_wp2
      go_ret
      exact ⟨r, n, hr.out, rfl, rfl⟩
end Go.Proofs.Ytgddfhmddkhaeaa

/-
  MissOfShares, in both packages: squares around 0 are squares.
-/
namespace Go.Proofs.Ytgddfhmddkhaeaa
open Ieee Go.RowKit
set_option linter.unusedVariables false
theorem word_lo (s : Bool) {r : Nat} (hr : r < 2147483648) : single.word s r % 2147483648 = r ∧ (single.word s r / 2147483648 % 2 == 1) = s := by
  cases s
  · show r % 2147483648 = r ∧ (r / 2147483648 % 2 == 1) = false
    refine ⟨Nat.mod_eq_of_lt hr, ?_⟩
    rw [beq_eq_false_iff_ne]; omega
  · show (2147483648 + r) % 2147483648 = r ∧ ((2147483648 + r) / 2147483648 % 2 == 1) = true
    refine ⟨by omega, ?_⟩
    rw [beq_iff_eq]; omega
theorem word_read {x m : Nat} {s : Bool} {p : Int} (h : single.read x = .number s m p) : single.read (single.word s (x % 2147483648)) = .number s m p := by
  have hr : x % 2147483648 < 2147483648 := Nat.mod_lt _ (by omega)
  obtain ⟨e1, e2⟩ := word_lo s hr
  unfold Format.read at h ⊢
  simp only [s_sign, s_binade, s_inf, s_least] at h ⊢
  rw [e1, e2]
  generalize x % 2147483648 = r at *
  by_cases h1 : r < 8388608
  · rw [if_pos h1] at h ⊢
    injection h with _ e3 e4
    subst e3 e4
    rfl
  · rw [if_neg h1] at h ⊢
    by_cases h2 : r < 2139095040
    · rw [if_pos h2] at h ⊢
      injection h with _ e3 e4
      subst e3 e4
      rfl
    · rw [if_neg h2] at h
      split at h <;> cases h
theorem sub_zero_read {x : Nat} (h : fin .f32 x = true) : single.read (aop .sub .f32 x 0) = single.read x := by
  obtain ⟨s, m, p, hr⟩ := fin_read h
  obtain ⟨h1, h2, h3, h4, h5, h6⟩ := single_parts hr
  have e0 : (single.read 0).opposite = .number true 0 (-149) := by decide +kernel
  have e : floatBits .sub .f32 x 0 = some (single.nearest s m p) := by
    show Option.map single.write ((single.read x).sum ((single.read 0).opposite)) = _
    rw [hr, e0]
    show some (single.write _) = _
    congr 1
    have hb : min p (-149) = -149 := by omega
    simp only [hb]
    have hz : signed true 0 (-149 - -149 : Int).toNat = 0 := by unfold signed; simp
    rw [hz, Int.add_zero]
    show single.nearest _ _ _ = _
    obtain ⟨k, hk⟩ : ∃ k : Nat, p - -149 = k := ⟨(p - -149).toNat, by omega⟩
    rw [hk]
    have hp : p = -149 + (k : Int) := by omega
    subst hp
    by_cases h0 : m = 0
    · subst h0
      have : signed s 0 ((k : Int)).toNat = 0 := by unfold signed; cases s <;> simp
      rw [this, if_pos rfl, Bool.and_true]
      unfold Format.nearest
      rw [if_pos (show Int.natAbs 0 = 0 from rfl)]
      try rfl
    · have hm : (m <<< k : Nat) = m * 2 ^ k := Nat.shiftLeft_eq _ _
      have hpos : 0 < m * 2 ^ k := Nat.mul_pos (by omega) (Nat.two_pow_pos _)
      rw [← nearest_scale single s m k (-149) (by omega)]
      unfold signed
      rw [Int.toNat_natCast, hm]
      cases s
      · simp only [Bool.false_eq_true, if_false]
        rw [if_neg (by omega), Int.natAbs_natCast]
        congr 1
        try exact decide_eq_false (by omega)
      · simp only [if_true]
        rw [if_neg (by omega), Int.natAbs_neg, Int.natAbs_natCast]
        congr 1
        try exact decide_eq_true (by omega)
  unfold aop
  rw [e]
  show single.read (single.nearest s m p) = _
  rw [show single.nearest s m p = single.word s (x % 2147483648) by rw [single_near s h1 h2 h3 h4, h5], word_read hr, hr]
theorem sq_zero {x : Nat} (h : fin .f32 x = true) : aop .mul .f32 (aop .sub .f32 x 0) (aop .sub .f32 x 0) = aop .mul .f32 x x := by
  have e : floatBits .mul .f32 (aop .sub .f32 x 0) (aop .sub .f32 x 0) = floatBits .mul .f32 x x := by
    show Option.map single.write ((single.read _).product (single.read _)) = Option.map single.write ((single.read _).product (single.read _))
    rw [sub_zero_read h]
  have e2 : ∀ u v, aop .mul .f32 u v = (floatBits .mul .f32 u v).getD (nanOf .f32) := fun _ _ => rfl
  rw [e2, e, ← e2]
theorem sq_dot {zs : List Nat} (h : fins zs = true) : ∀ k, k ≤ zs.length → sqTo zs 0 k = dotTo zs zs k := by
  intro k
  induction k with
  | zero => intro _; rfl
  | succ k ih =>
    intro hk
    unfold sqTo dotTo
    have hf : fin .f32 (cn .f32 (zs.getD k 0)) = true := by rw [fin_congr (cn_cn .f32 _)]; exact fins_at h (by omega)
    rw [ih (by omega), sq_zero hf]
theorem dot_congr {xs ys : List Nat} : ∀ k, (∀ i, i < k → cn .f32 (xs.getD i 0) = cn .f32 (ys.getD i 0)) → dotTo xs xs k = dotTo ys ys k := by
  intro k
  induction k with
  | zero => intro _; rfl
  | succ k ih =>
    intro h
    unfold dotTo
    rw [ih (fun i hi => h i (by omega)), h k (by omega)]
theorem rnM_fin {q : Stt} {xs : List Nat} {a b c d : Nat} : ∀ n, oks (rnO q xs a b c d) n = true → fins (tells (rnM q xs a b c d) n) = true := by
  intro n h
  unfold fins
  rw [List.all_eq_true]
  intro y hy
  unfold tells at hy
  obtain ⟨k, hk, rfl⟩ := List.mem_map.1 hy
  have hkn : k < n := List.mem_range.1 hk
  have ho : rnO q xs a b c d k = true := by
    cases hb : rnO q xs a b c d k
    · rw [oks_bad hkn hb] at h; cases h
    · rfl
  unfold rnO at ho
  unfold rnM rsM
  rw [if_pos ho, fin_congr (cn_cn .f32 _)]
  unfold stpB at ho
  simp only [Bool.and_eq_true] at ho
  exact ho.2.1
/-- The mean of the squares of misses. -/
def mshQ (q : Stt) (xs : List Nat) (a b c d n : Nat) : Nat := aop .quo .f32 (dotTo (tells (rnM q xs a b c d) n) (tells (rnM q xs a b c d) n) n) (cn .f32 (i2f n))
def mshB (q : Stt) (xs : List Nat) (a b c d n : Nat) : Bool := rnB q xs a b c d n && fin .f32 (mshQ q xs a b c d n)
def mshV (q : Stt) (xs : List Nat) (a b c d n : Nat) : Nat := if mshB q xs a b c d n then mshQ q xs a b c d n else 0
/-- A number and a bool, behind calls that make memory. -/
def RetFBs (v : Nat) (b : Bool) (w : World) (e : Ending) (w' : World) : Prop := ∃ r, cn .f32 r = v ∧ e = .returned (.tuple #[.float .f32 r, .bool b]) ∧ Below w.heap.size w w'
theorem msh_no {q : Stt} {xs : List Nat} {a b c d n : Nat} {w w' : World} (h : rnB q xs a b c d n = false) (hb : Below w.heap.size w w') : RetFBs (mshV q xs a b c d n) (mshB q xs a b c d n) w (.returned (.tuple #[.float .f32 0, .bool false])) w' := by
  have hB : mshB q xs a b c d n = false := by unfold mshB; rw [h]; rfl
  exact ⟨0, by unfold mshV; rw [hB]; exact cn_zero, by rw [hB], hb⟩
theorem msh_end {q : Stt} {xs : List Nat} {a b c d n r x : Nat} {w w' : World} (hB : rnB q xs a b c d n = true) (hr : cn .f32 r = if fin .f32 x then cn .f32 x else 0) (hx : cn .f32 x = mshQ q xs a b c d n) (hb : Below w.heap.size w w') : RetFBs (mshV q xs a b c d n) (mshB q xs a b c d n) w (.returned (.tuple #[.float .f32 r, .bool (fin .f32 x)])) w' := by
  have hq : cn .f32 (mshQ q xs a b c d n) = mshQ q xs a b c d n := cn_aop ..
  have hf : fin .f32 x = fin .f32 (mshQ q xs a b c d n) := fin_congr (hx.trans hq.symm)
  have hM : mshB q xs a b c d n = fin .f32 x := by unfold mshB; rw [hB, hf]; rfl
  refine ⟨r, ?_, by rw [hM], hb⟩
  rw [hr, hx]
  unfold mshV
  rw [hM]
theorem msh_dot {q : Stt} {xs rs : List Nat} {a b c d n : Nat} (h : cnl rs = tells (rnM q xs a b c d) n) : dotTo rs rs n = dotTo (tells (rnM q xs a b c d) n) (tells (rnM q xs a b c d) n) n := by
  have hl : rs.length = n := by have := congrArg List.length h; rw [cnl_len, tells_len] at this; exact this
  refine dot_congr n fun i hi => ?_
  rw [← h, ← cnl_at (by omega)]
  rw [cnl_at (by omega), cn_cn]
set_option maxHeartbeats 2000000 in
set_option maxRecDepth 100000 in
theorem imMissOf_any (al : Option Addr) (ll cl : Nat) (xs : List Nat) (l s : Nat) (a : Option Addr) (len cap : Nat) (zs : List Nat) (t : Int) (c0 c1 c2 c3 : Nat) (w : World) (hx : FSl w al ll xs) (h : FSl w a len zs) (hml : ll ≤ 1048576) (hm : len ≤ 1048576) :
    Calls Try.prog 35 #[.slice al ll cl, .agg #[.float .f32 l, .float .f32 s, .slice a len cap, .int .i64 t], .agg #[.float .f32 c0, .float .f32 c1, .float .f32 c2, .float .f32 c3]] w (RetFBs (mshV ⟨l, s, zs, t⟩ xs c0 c1 c2 c3 ll) (mshB ⟨l, s, zs, t⟩ xs c0 c1 c2 c3 ll) w) := by
  have b1 := (Below.refl w.heap.size w).alloc (Nat.le_refl _) (.cells #[.float .f32 l, .float .f32 s, .slice a len cap, .int .i64 t] 29)
  have b2 := b1.alloc (by simp) (.cells #[.float .f32 c0, .float .f32 c1, .float .f32 c2, .float .f32 c3] 33)
  have HS := Lib.hid ((StIn.new w l s a len cap t 29).alloc (.cells #[.float .f32 c0, .float .f32 c1, .float .f32 c2, .float .f32 c3] 33))
  have HH := Lib.hid (show ShIn ((w.alloc (.cells #[.float .f32 l, .float .f32 s, .slice a len cap, .int .i64 t] 29)).alloc (.cells #[.float .f32 c0, .float .f32 c1, .float .f32 c2, .float .f32 c3] 33)) (w.heap.size + 1) c0 c1 c2 c3 from by simpa using ShIn.new (w.alloc (.cells #[.float .f32 l, .float .f32 s, .slice a len cap, .int .i64 t] 29)) c0 c1 c2 c3 33)
  have G := Lib.hid b2
  have HX := Lib.hid (FSl.below hx b2)
  have HZ := Lib.hid (FSl.below h b2)
  clear b1 b2 hx h
  obtain ⟨k0, k1, k2, k3⟩ := HS.out
  obtain ⟨j0, j1, j2, j3⟩ := HH.out
  go_enter Try.func35, Try.ntmps35
  go_wp2_with fail
  refine (imMisses_any _ _ _ xs _ _ _ _ _ zs _ _ _ _ _ _ HX.out HZ.out hml hm).mono ?_
  rintro e w4 ⟨v, rs, rfl, ho, hc, bb⟩
  have GF := Lib.hid (G.out.trans (bb.mono G.out.size))
  clear k0 k1 k2 k3 j0 j1 j2 j3 HS HH HX HZ bb G
  cases hB : rnB ⟨l, s, zs, t⟩ xs c0 c1 c2 c3 ll
  · have HB := Lib.hid hB
    clear hB ho hc
    go_wp2_with fail
    go_ret2
    exact msh_no HB.out GF.out
  · have HB := Lib.hid hB
    rw [hB] at hc
    have HC := Lib.hid (show cnl rs = tells (rnM ⟨l, s, zs, t⟩ xs c0 c1 c2 c3) ll from hc)
    have HOk := Lib.hid (show oks (rnO ⟨l, s, zs, t⟩ xs c0 c1 c2 c3) ll = true from by unfold rnB at hB; exact (Bool.and_eq_true_iff.1 hB).2)
    have hlr : rs.length = ll := by have := congrArg List.length HC.out; rw [cnl_len, tells_len] at this; exact this
    obtain ⟨A, cp, rfl, hsl, _⟩ := ho.sl
    rw [hlr] at hsl
    have HSl := Lib.hid hsl
    have HLr := Lib.hid hlr
    clear hB hc ho hsl hlr
    rw [HLr.out]
    go_wp2_with fail
    refine (implSquares_any _ _ _ _ _ _ HSl.out hml).mono ?_
    rintro e w' ⟨d, n2, hd, rfl, rfl⟩
    have HD := Lib.hid (show cn .f32 d = dotTo (tells (rnM ⟨l, s, zs, t⟩ xs c0 c1 c2 c3) ll) (tells (rnM ⟨l, s, zs, t⟩ xs c0 c1 c2 c3) ll) ll from by
      rw [hd, cn_zero, sq_dot (by rw [← fins_cnl, HC.out]; exact rnM_fin _ HOk.out) _ (by rw [HLr.out]; exact Nat.le_refl _)]
      exact msh_dot HC.out)
    clear hd
    go_wp2_with fail
    refine (implOnly_any _ _).mono ?_
    rintro e w' ⟨r, n3, hr, rfl, rfl⟩
    have HR := Lib.hid hr
    clear hr
    go_wp2
    go_ret2
    refine msh_end HB.out HR.out ?_ (below_drewN GF.out _)
    rw [cn_fopR, HD.out]; rfl
set_option maxHeartbeats 2000000 in
set_option maxRecDepth 100000 in
theorem spMiss4_any (p q : Nat) (al : Option Addr) (ll cl : Nat) (xs : List Nat) (l s : Nat) (a : Option Addr) (len cap : Nat) (zs : List Nat) (t : Int) (c0 c1 c2 c3 : Nat) (w : World) (hin : StIn w p l s a len cap t) (hsh : ShIn w q c0 c1 c2 c3) (hx : FSl w al ll xs) (h : FSl w a len zs) (hml : ll ≤ 1048576) (hm : len ≤ 1048576) :
    Calls Try.prog 71 #[.slice al ll cl, .pointer (some ⟨p, 0, none⟩), .pointer (some ⟨q, 0, none⟩)] w (RetFBs (mshV ⟨l, s, zs, t⟩ xs c0 c1 c2 c3 ll) (mshB ⟨l, s, zs, t⟩ xs c0 c1 c2 c3 ll) w) := by
  have HS := Lib.hid hin
  have HH := Lib.hid hsh
  have HX := Lib.hid hx
  have HZ := Lib.hid h
  clear hin hsh hx h
  go_enter Try.func71, Try.ntmps71
  go_wp2_with fail
  refine (spRun_any _ _ _ _ _ xs _ _ _ _ _ zs _ _ _ _ _ _ HS.out HH.out HX.out HZ.out hml hm).mono ?_
  rintro e w4 ⟨A, cp, vG, v, rG, rs, rfl, h1, h2, ho, eg, hc, bb⟩
  have GF := Lib.hid (bb.alloc bb.size (.cells #[.float .f32 (rnS ⟨l, s, zs, t⟩ xs c0 c1 c2 c3 ll).l, .float .f32 (rnS ⟨l, s, zs, t⟩ xs c0 c1 c2 c3 ll).s, .slice A (rnS ⟨l, s, zs, t⟩ xs c0 c1 c2 c3 ll).zs.length cp, .int .i64 (rnS ⟨l, s, zs, t⟩ xs c0 c1 c2 c3 ll).t] 29))
  replace ho := ho.alloc (.cells #[.float .f32 (rnS ⟨l, s, zs, t⟩ xs c0 c1 c2 c3 ll).l, .float .f32 (rnS ⟨l, s, zs, t⟩ xs c0 c1 c2 c3 ll).s, .slice A (rnS ⟨l, s, zs, t⟩ xs c0 c1 c2 c3 ll).zs.length cp, .int .i64 (rnS ⟨l, s, zs, t⟩ xs c0 c1 c2 c3 ll).t] 29)
  clear h1 h2 eg bb HS HH HX HZ
  cases hB : rnB ⟨l, s, zs, t⟩ xs c0 c1 c2 c3 ll
  · have HB := Lib.hid hB
    clear hB ho hc
    go_wp2_with fail
    go_ret2
    exact msh_no HB.out GF.out
  · have HB := Lib.hid hB
    rw [hB] at hc
    have HC := Lib.hid (show cnl rs = tells (rnM ⟨l, s, zs, t⟩ xs c0 c1 c2 c3) ll from hc)
    have hlr : rs.length = ll := by have := congrArg List.length HC.out; rw [cnl_len, tells_len] at this; exact this
    obtain ⟨A', cp', rfl, hsl, _⟩ := ho.sl
    rw [hlr] at hsl
    have HSl := Lib.hid hsl
    have HLr := Lib.hid hlr
    clear hB hc ho hsl hlr
    rw [HLr.out]
    go_wp2_with fail
    refine (l02Dot_any _ _ _ _ _ _ _ _ HSl.out HSl.out hml).mono ?_
    rintro e w' ⟨d, n2, hd, rfl, rfl⟩
    have HD := Lib.hid (show cn .f32 d = dotTo (tells (rnM ⟨l, s, zs, t⟩ xs c0 c1 c2 c3) ll) (tells (rnM ⟨l, s, zs, t⟩ xs c0 c1 c2 c3) ll) ll from by rw [hd]; exact msh_dot HC.out)
    clear hd
    go_wp2_with fail
    refine (specNumber_any _ _).mono ?_
    rintro e w' ⟨r, n3, hr, rfl, rfl⟩
    have HR := Lib.hid hr
    clear hr
    go_wp2
    go_ret2
    refine msh_end HB.out HR.out ?_ (below_drewN GF.out _)
    rw [cn_fopR, HD.out]; rfl
set_option maxHeartbeats 2000000 in
set_option maxRecDepth 100000 in
theorem spMissOf_any (al : Option Addr) (ll cl : Nat) (xs : List Nat) (l s : Nat) (a : Option Addr) (len cap : Nat) (zs : List Nat) (t : Int) (c0 c1 c2 c3 : Nat) (w : World) (hx : FSl w al ll xs) (h : FSl w a len zs) (hml : ll ≤ 1048576) (hm : len ≤ 1048576) :
    Calls Try.prog 34 #[.slice al ll cl, .agg #[.float .f32 l, .float .f32 s, .slice a len cap, .int .i64 t], .agg #[.float .f32 c0, .float .f32 c1, .float .f32 c2, .float .f32 c3]] w (RetFBs (mshV ⟨l, s, zs, t⟩ xs c0 c1 c2 c3 ll) (mshB ⟨l, s, zs, t⟩ xs c0 c1 c2 c3 ll) w) := by
  have b1 := (Below.refl w.heap.size w).alloc (Nat.le_refl _) (.cells #[.float .f32 l, .float .f32 s, .slice a len cap, .int .i64 t] 29)
  have b2 := b1.alloc (by simp) (.cells #[.float .f32 c0, .float .f32 c1, .float .f32 c2, .float .f32 c3] 33)
  have HS := Lib.hid ((StIn.new w l s a len cap t 29).alloc (.cells #[.float .f32 c0, .float .f32 c1, .float .f32 c2, .float .f32 c3] 33))
  have HH := Lib.hid (show ShIn ((w.alloc (.cells #[.float .f32 l, .float .f32 s, .slice a len cap, .int .i64 t] 29)).alloc (.cells #[.float .f32 c0, .float .f32 c1, .float .f32 c2, .float .f32 c3] 33)) (w.heap.size + 1) c0 c1 c2 c3 from by simpa using ShIn.new (w.alloc (.cells #[.float .f32 l, .float .f32 s, .slice a len cap, .int .i64 t] 29)) c0 c1 c2 c3 33)
  have G := Lib.hid b2
  have HX := Lib.hid (FSl.below hx b2)
  have HZ := Lib.hid (FSl.below h b2)
  clear b1 b2 hx h
  go_enter Try.func34, Try.ntmps34
  go_wp2_with fail
  refine (spMiss4_any _ _ _ _ _ xs _ _ _ _ _ zs _ _ _ _ _ _ HS.out HH.out HX.out HZ.out hml hm).mono ?_
  rintro e w4 ⟨r, hr, rfl, bb⟩
  have GF := Lib.hid (G.out.trans (bb.mono G.out.size))
  have HR := Lib.hid hr
  clear hr bb
  go_wp2
  go_ret2
  exact ⟨r, HR.out, rfl, GF.out⟩
end Go.Proofs.Ytgddfhmddkhaeaa

