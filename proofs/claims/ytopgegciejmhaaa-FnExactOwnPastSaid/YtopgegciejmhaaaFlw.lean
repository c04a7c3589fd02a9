/-
  What a 32-bit float becomes as a 64-bit one: the same number, exactly. And what the walk makes of float operations: a word that is known up to a not-a-number, and some draws.
-/
import Derived.Test.YtopgegciejmhaaaFlo
namespace Go.Proofs.Ytopgegciejmhaaa
open Ieee

theorem d_least : double.leastPlace = -1074 := by decide
theorem d_binade : double.binade = 4503599627370496 := by decide
theorem d_inf : double.infRung = 9218868437227405312 := by decide
theorem d_sign : double.signWeight = 9223372036854775808 := by decide
theorem s_least : single.leastPlace = -149 := by decide
theorem s_binade : single.binade = 8388608 := by decide
theorem s_inf : single.infRung = 2139095040 := by decide
theorem s_sign : single.signWeight = 2147483648 := by decide

theorem cut_zero (neg : Bool) (n : Nat) : Toward.even.cut neg n 0 = n := by
  unfold Toward.cut
  simp [Nat.mod_one]

/-- Reading a word of known sign and rung. -/
theorem read_word (f : Format) (neg : Bool) {rung : Nat} (h : rung < f.signWeight) :
    f.read (f.word neg rung) = if rung < f.binade then .number neg rung f.leastPlace
      else if rung < f.infRung then .number neg (f.binade + rung % f.binade) (f.leastPlace + (rung / f.binade - 1 : Nat))
      else if rung = f.infRung then .infinity neg else .nan neg (rung - f.infRung) := by
  have hr : (f.word neg rung) % f.signWeight = rung := by
    unfold Format.word
    split
    · rw [Nat.add_mod_left]; exact Nat.mod_eq_of_lt h
    · exact Nat.mod_eq_of_lt h
  have hn : ((f.word neg rung) / f.signWeight % 2 == 1) = neg := by
    unfold Format.word
    cases neg
    · rw [if_neg (by simp), Nat.div_eq_of_lt h]; rfl
    · rw [if_pos rfl, Nat.add_div_left _ (width_pos f), Nat.div_eq_of_lt h]; rfl
  unfold Format.read
  simp only [hr, hn]

theorem log2_bounds {m : Nat} (h : 0 < m) : 2 ^ m.log2 ≤ m ∧ m < 2 ^ (m.log2 + 1) := ⟨Nat.log2_self_le (by omega), Nat.lt_log2_self⟩

/-- The exact word of a number of at most 53 digits, far from both ends. -/
theorem wide_nearest (s : Bool) (m : Nat) (p : Int) (hm0 : 0 < m) (hl : m.log2 ≤ 52) (hp : -1022 ≤ p + m.log2) (hp2 : p + m.log2 ≤ 1023) :
    double.nearest s m p = double.word s ((p + m.log2 + 1022).toNat * 4503599627370496 + m * 2 ^ (52 - m.log2)) ∧ 4503599627370496 ≤ m * 2 ^ (52 - m.log2) ∧ m * 2 ^ (52 - m.log2) < 9007199254740992 := by
  obtain ⟨b1, b2⟩ := log2_bounds hm0
  have k1 : 4503599627370496 ≤ m * 2 ^ (52 - m.log2) := by
    calc 4503599627370496 = 2 ^ m.log2 * 2 ^ (52 - m.log2) := by rw [← Nat.pow_add, show m.log2 + (52 - m.log2) = 52 by omega]
      _ ≤ _ := Nat.mul_le_mul_right _ b1
  have k2 : m * 2 ^ (52 - m.log2) < 9007199254740992 := by
    calc m * 2 ^ (52 - m.log2) < 2 ^ (m.log2 + 1) * 2 ^ (52 - m.log2) := Nat.mul_lt_mul_of_pos_right b2 (Nat.two_pow_pos _)
      _ = 9007199254740992 := by rw [← Nat.pow_add, show m.log2 + 1 + (52 - m.log2) = 53 by omega]
  refine ⟨?_, k1, k2⟩
  unfold Format.nearest
  rw [if_neg (by omega)]
  have hf : (double.fractionBits : Int) = 52 := rfl
  have hlast : max (p + (m.log2 : Int) - (double.fractionBits : Int)) double.leastPlace = p + m.log2 - 52 := by rw [hf, d_least]; omega
  simp only [hlast]
  simp only [d_least, d_binade, d_inf]
  have e1 : (p - (p + (m.log2 : Int) - 52)).toNat = 52 - m.log2 := by omega
  have e2 : (p + (m.log2 : Int) - 52 - p).toNat = 0 := by omega
  have e3 : (p + (m.log2 : Int) - 52 - -1074).toNat = (p + m.log2 + 1022).toNat := by omega
  rw [e1, e2, e3, cut_zero, Nat.shiftLeft_eq]
  have : (p + (m.log2 : Int) + 1022).toNat ≤ 2045 := by omega
  rw [Nat.min_eq_left (by omega)]

theorem wide_read (s : Bool) (m : Nat) (p : Int) (hm0 : 0 < m) (hl : m.log2 ≤ 52) (hp : -1022 ≤ p + m.log2) (hp2 : p + m.log2 ≤ 1023) :
    double.read (double.nearest s m p) = .number s (m * 2 ^ (52 - m.log2)) (p + m.log2 - 52) := by
  obtain ⟨h, k1, k2⟩ := wide_nearest s m p hm0 hl hp hp2
  rw [h]
  generalize m * 2 ^ (52 - m.log2) = K at *
  generalize hE : (p + (m.log2 : Int) + 1022).toNat = E at *
  have hE2 : E ≤ 2045 := by omega
  have hEp : (E : Int) = p + m.log2 + 1022 := by omega
  rw [read_word _ _ (by rw [d_sign]; omega), d_binade, d_inf, if_neg (by omega), if_pos (by omega), d_least]
  have e1 : (E * 4503599627370496 + K) % 4503599627370496 = K - 4503599627370496 := by omega
  have e2 : (E * 4503599627370496 + K) / 4503599627370496 = E + 1 := by omega
  rw [e1, e2, show 4503599627370496 + (K - 4503599627370496) = K by omega]
  congr 1
  omega

/-- What a 32-bit word reads as. -/
theorem single_read (x : Nat) :
    (∃ s m p, single.read x = .number s m p ∧ m < 16777216 ∧ -149 ≤ p ∧ p ≤ 104 ∧ (m < 8388608 → p = -149)) ∨ (∃ s, single.read x = .infinity s) ∨ (∃ s t, single.read x = .nan s t) := by
  unfold Format.read
  simp only [s_sign, s_binade, s_inf, s_least]
  generalize hr : x % 2147483648 = r
  by_cases h1 : r < 8388608
  · rw [if_pos h1]; exact .inl ⟨_, _, _, rfl, by omega, by omega, by omega, fun _ => rfl⟩
  · rw [if_neg h1]
    by_cases h2 : r < 2139095040
    · rw [if_pos h2]; exact .inl ⟨_, _, _, rfl, by omega, by omega, by omega, fun h => by omega⟩
    · rw [if_neg h2]
      by_cases h3 : r = 2139095040
      · rw [if_pos h3]; exact .inr (.inl ⟨_, rfl⟩)
      · rw [if_neg h3]; exact .inr (.inr ⟨_, _, rfl⟩)

/-- 'float64(x)' of a 32-bit word. -/
def awide (x : Nat) : Nat := if isN .f32 x then nanOf .f64 else double.write (single.read x)

theorem log2_lt24 {m : Nat} (h : m < 16777216) : m.log2 ≤ 23 := by
  by_cases h0 : m = 0
  · subst h0; decide
  · have := (Nat.log2_lt h0).2 (show m < 2 ^ 24 from h); omega

theorem zero_read (s : Bool) (p : Int) : double.read (double.nearest s 0 p) = .number s 0 (-1074) := by
  unfold Format.nearest
  rw [if_pos rfl, read_word _ _ (by rw [d_sign]; omega), if_pos (by rw [d_binade]; omega), d_least]

/-- The 64-bit word reads as the same number. -/
theorem awide_read {x : Nat} {s : Bool} {m : Nat} {p : Int} (h : single.read x = .number s m p) : double.read (awide x) = if m = 0 then .number s 0 (-1074) else .number s (m * 2 ^ (52 - m.log2)) (p + m.log2 - 52) := by
  have hn : isN .f32 x = false := by unfold isN; rw [show (FloatKind.format .f32) = single from rfl, h]; rfl
  unfold awide
  rw [hn, if_neg (by simp), h]
  show double.read (double.nearest s m p) = _
  by_cases h0 : m = 0
  · subst h0; rw [zero_read, if_pos rfl]
  · rw [if_neg h0]
    rcases single_read x with ⟨s', m', p', h', hm, hp, hp2, _⟩ | ⟨s', h'⟩ | ⟨s', t', h'⟩
    · rw [h] at h'; cases h'
      have := log2_lt24 hm
      exact wide_read s m p (by omega) (by omega) (by omega) (by omega)
    · rw [h] at h'; cases h'
    · rw [h] at h'; cases h'
theorem awide_inf {x : Nat} {s : Bool} (h : single.read x = .infinity s) : double.read (awide x) = .infinity s := by
  have hn : isN .f32 x = false := by unfold isN; rw [show (FloatKind.format .f32) = single from rfl, h]; rfl
  unfold awide
  rw [hn, if_neg (by simp), h]
  show double.read (double.word s double.infRung) = _
  rw [read_word _ _ (by rw [d_sign, d_inf]; omega), if_neg (by rw [d_inf, d_binade]; omega), if_neg (by omega), if_pos rfl]
theorem isN_awide (x : Nat) : isN .f64 (awide x) = isN .f32 x := by
  cases h : isN .f32 x
  · rcases single_read x with ⟨s, m, p, h', _⟩ | ⟨s, h'⟩ | ⟨s, t, h'⟩
    · unfold isN; rw [show (FloatKind.format .f64) = double from rfl, awide_read h']; split <;> rfl
    · unfold isN; rw [show (FloatKind.format .f64) = double from rfl, awide_inf h']; rfl
    · unfold isN at h; rw [show (FloatKind.format .f32) = single from rfl, h'] at h; cases h
  · unfold awide; rw [h, if_pos rfl, isN_nanOf]
theorem awide_cn (x : Nat) : awide (cn .f32 x) = awide x := by
  cases h : isN .f32 x
  · rw [cn_num h]
  · rw [cn_nan h]; unfold awide; rw [isN_nanOf, h]; rfl

/-- 'float64(x)': the same, in a run. -/
theorem run_wide {P : Program} (w : World) (src dst : TypeId) (hs : P.underlying src = some (.float .f32)) (hd : P.underlying dst = some (.float .f64)) (x : Nat) :
    ∃ r n, (convert src dst (.float .f32 x)).run P w = .ok (.float .f64 r) (w.drewN n) ∧ cn .f64 r = awide x := by
  rcases single_read x with ⟨s, m, p, h, _⟩ | ⟨s, h⟩ | ⟨s, t, h⟩
  · have hn : isN .f32 x = false := by unfold isN; rw [show (FloatKind.format .f32) = single from rfl, h]; rfl
    have hw : awide x = double.nearest s m p := by unfold awide; rw [hn, if_neg (by simp), h]; rfl
    have hi : (double.read (double.nearest s m p)).isInfinity = false := by rw [← hw, awide_read h]; split <;> rfl
    have hN : isN .f64 (awide x) = false := by rw [isN_awide, hn]
    refine ⟨double.nearest s m p, 0, ?_, by rw [← hw, cn_num hN]⟩
    have hb : floatToFloatBits .f32 x .f64 = some (double.nearest s m p) := by
      unfold floatToFloatBits
      rw [if_neg (by decide), show FloatKind.decode .f32 x = .number s m p from h]
      simp only [show FloatKind.decode .f64 (FloatKind.encode .f64 (.number s m p)) = double.read (double.nearest s m p) from rfl, hi]
      rfl
    exact run_convert_float_float w src dst .f32 .f64 x _ (by rw [hs]; rfl) hd hb
  · have hn : isN .f32 x = false := by unfold isN; rw [show (FloatKind.format .f32) = single from rfl, h]; rfl
    have hw : awide x = double.word s double.infRung := by unfold awide; rw [hn, if_neg (by simp), h]; rfl
    have hN : isN .f64 (awide x) = false := by rw [isN_awide, hn]
    refine ⟨double.word s double.infRung, 0, ?_, by rw [← hw, cn_num hN]⟩
    have hb : floatToFloatBits .f32 x .f64 = some (double.word s double.infRung) := by
      unfold floatToFloatBits
      rw [if_neg (by decide), show FloatKind.decode .f32 x = .infinity s from h]
      rfl
    exact run_convert_float_float w src dst .f32 .f64 x _ (by rw [hs]; rfl) hd hb
  · have hn : isN .f32 x = true := by unfold isN; rw [show (FloatKind.format .f32) = single from rfl, h]; rfl
    refine ⟨(Question.nanConv .f64 x).cut (w.tape w.drawn (.nanConv .f64 x)), 1, ?_, ?_⟩
    · have hdec : FloatKind.decode .f32 x = .nan s t := h
      simp [convert, run_underlying hs, run_underlying hd, Conv.floatToFloat, hdec, Question.forced]; rfl
    · rw [cn_nan (isN_cut_conv ..)]; unfold awide; rw [hn, if_pos rfl]
end Go.Proofs.Ytopgegciejmhaaa
